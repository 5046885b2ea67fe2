package tests

import (
	"fmt"
	"math/rand/v2"
	"reflect"
	"slices"
	"strings"
	"testing"

	"loop.example/lapwing/impl"
)

func wantFault(t *testing.T, text string, line, code int) {
	t.Helper()
	s, f := impl.SkyParse(text)
	if want := (impl.SkyFault{Line: line, Code: code}); f != want {
		t.Errorf("fault %+v, not %+v, of %q", f, want, text)
	}
	if !reflect.DeepEqual(plainSky(s), impl.Sky{}) {
		t.Errorf("a sky beside a fault, of %q: %+v", text, s)
	}
}

func wantSky(t *testing.T, text string, want impl.Sky) {
	t.Helper()
	s, f := impl.SkyParse(text)
	if f != (impl.SkyFault{}) || !sameSky(s, want) {
		t.Errorf("%+v and %+v, not %+v, of %q", s, f, want, text)
	}
}

func TestSkyFaultCodes(t *testing.T) {
	codes := []int{impl.SkyBadWord, impl.SkyNoSky, impl.SkyNoKey, impl.SkyBadArgs, impl.SkyOutside, impl.SkyAgain, impl.SkyTaken, impl.SkyTooMany, impl.SkyNoPoint, impl.SkyHole, impl.SkyTooLong}
	if !slices.Equal(codes, []int{1, 2, 3, 4, 5, 6, 7, 8, 9, 10, 11}) || impl.SkyMaxText != 10000 || impl.SkyMaxLines != 200 {
		t.Error("not the numbers of the document", codes, impl.SkyMaxText, impl.SkyMaxLines)
	}
}

// badWords are lines of which SkyWords is false.
var badWords = []string{"\x01", "\r", "\t", "point a 0 0\r", "point\ta 0 0", "point a 0 0 \x7f", "\xff", "sky 1 1 1 é", "\x00", strings.Repeat("x", 25), "a b c d e f g h i j k l m", "sky 1 1 1\v"}

// badNumbers are words that are no number of a text of a sky.
var badNumbers = []string{"00", "01", "0001", "00001", "-0", "-1", "+1", "+0", "10000", "99999", "1_0", "0x1", "1.", "1e1", "1.0", "a", "-", "+", ",1", "1,", "n", "184467440737095516160", "000000000000000000000001"}

// badNames are words that are no name.
var badNames = []string{"A", "aB", "a_b", "a.b", "abcdefghi", "a+", "!", "~", "a/b", "a:b", "a`b", "a{b"}

func TestSkyParseSize(t *testing.T) {
	for _, line := range badWords {
		wantFault(t, line, 1, impl.SkyBadWord)
	}
	for _, line := range []string{"point a 0 0", "airway a b c", "sector a 0 0 0 0 1 1", "runway a 0 0 n", "Sky 1 1 1", "skyy 1 1 1", "sk 1 1 1", "1 1 1", "s ky 1 1 1", "x", "size 1 1 1"} {
		wantFault(t, line, 1, impl.SkyNoSky)
	}
	for _, line := range []string{"sky", "sky 1", "sky 1 1", "sky 1 1 1 1", "sky 1 1 1 x", "sky x 1 1 1", "sky 0 0", "sky 17 17 7 1", "sky 1 1 1 1 1 1 1 1 1 1 1"} {
		wantFault(t, line, 1, impl.SkyBadArgs)
	}
	for _, n := range badNumbers {
		wantFault(t, fmt.Sprintf("sky %s 1 1\n", n), 1, impl.SkyBadArgs)
		wantFault(t, fmt.Sprintf("sky 1 %s 1\n", n), 1, impl.SkyBadArgs)
		wantFault(t, fmt.Sprintf("sky 1 1 %s\n", n), 1, impl.SkyBadArgs)
		wantFault(t, fmt.Sprintf("sky 0 17 %s\n", n), 1, impl.SkyBadArgs)
	}
	for _, n := range []int{0, 17, 18, 100, 1000, 9999} {
		wantFault(t, fmt.Sprintf("sky %d 1 1\n", n), 1, impl.SkyOutside)
		wantFault(t, fmt.Sprintf("sky 1 %d 1\n", n), 1, impl.SkyOutside)
		wantFault(t, fmt.Sprintf("sky 1 1 %d\n", n), 1, impl.SkyOutside)
	}
	wantFault(t, "sky 1 1 7\n", 1, impl.SkyOutside)
	for _, size := range []string{"1 1 1", "16 1 1", "1 16 1", "1 1 6", "16 16 6", "10 10 5"} {
		wantFault(t, "sky "+size+"\n", 2, impl.SkyHole)
	}
}

// smallText is the text of smallSky: three points, two airways, four blocks of two sectors, two runways.
func smallText() string {
	return textOf(skyLines(smallSky()))
}

// lineCase is a line, and its fault.
type lineCase struct {
	line string
	code int
}

// wantLines lets each line stand behind a text, with more behind it that is wrong in another way.
func wantLines(t *testing.T, text string, cases []lineCase) {
	t.Helper()
	at := strings.Count(text, "\n") + 1
	for _, c := range cases {
		for _, behind := range []string{"", "\n", "\nsky 1 1 1\n", "\n\x01\n"} {
			wantFault(t, text+c.line+behind, at, c.code)
		}
	}
}

func TestSkyParseBadWords(t *testing.T) {
	var cases []lineCase
	for _, line := range badWords {
		cases = append(cases, lineCase{line, impl.SkyBadWord}, lineCase{"sky " + line, impl.SkyBadWord}, lineCase{"x " + line, impl.SkyBadWord})
	}
	wantLines(t, smallText(), cases)
	wantLines(t, "# nothing counts yet\n\n", cases)
}

func TestSkyParseKeys(t *testing.T) {
	wantLines(t, smallText(), []lineCase{
		{"x", impl.SkyNoKey}, {"poin z 0 1", impl.SkyNoKey}, {"points z 0 1", impl.SkyNoKey}, {"POINT z 0 1", impl.SkyNoKey},
		{"Sky 1 1 1", impl.SkyNoKey}, {"0", impl.SkyNoKey}, {"airways z a b", impl.SkyNoKey}, {"block z 0 0 0 0 1 1", impl.SkyNoKey}, {"-", impl.SkyNoKey},
		{"sky 5 4 3", impl.SkyAgain}, {"sky", impl.SkyAgain}, {"sky x", impl.SkyAgain}, {"sky 0 0 0", impl.SkyAgain}, {"sky 1 1 1 1", impl.SkyAgain},
	})
}

func TestSkyParseArgsOfPoints(t *testing.T) {
	cases := []lineCase{{"point", impl.SkyBadArgs}, {"point z", impl.SkyBadArgs}, {"point z 0", impl.SkyBadArgs}, {"point z 0 1 1", impl.SkyBadArgs}, {"point 0 1", impl.SkyBadArgs}, {"point z 9999 01", impl.SkyBadArgs}, {"point a 0", impl.SkyBadArgs}}
	for _, n := range badNumbers {
		cases = append(cases, lineCase{"point z " + n + " 1", impl.SkyBadArgs}, lineCase{"point z 0 " + n, impl.SkyBadArgs}, lineCase{"point a 7 " + n, impl.SkyBadArgs})
	}
	for _, name := range badNames {
		cases = append(cases, lineCase{"point " + name + " 0 1", impl.SkyBadArgs}, lineCase{"point " + name + " 9 9", impl.SkyBadArgs})
	}
	wantLines(t, smallText(), cases)
}

func TestSkyParseArgsOfAirways(t *testing.T) {
	cases := []lineCase{
		{"airway", impl.SkyBadArgs}, {"airway z", impl.SkyBadArgs}, {"airway z a", impl.SkyBadArgs}, {"airway j1 a", impl.SkyBadArgs},
		{"airway z a a", impl.SkyBadArgs}, {"airway z a b a", impl.SkyBadArgs}, {"airway z x x", impl.SkyBadArgs}, {"airway z a b c d e f g a", impl.SkyBadArgs}, {"airway j1 b b", impl.SkyBadArgs}, {"airway z a b b c", impl.SkyBadArgs},
		{"airway z a b c d e f g h i", impl.SkyBadArgs}, {"airway z a b c d e f g h i j", impl.SkyBadArgs},
	}
	for _, name := range badNames {
		cases = append(cases, lineCase{"airway " + name + " a b", impl.SkyBadArgs}, lineCase{"airway z " + name + " b", impl.SkyBadArgs}, lineCase{"airway z a " + name, impl.SkyBadArgs}, lineCase{"airway z a b c " + name, impl.SkyBadArgs})
	}
	wantLines(t, smallText(), cases)
}

func TestSkyParseArgsOfBlocks(t *testing.T) {
	cases := []lineCase{{"sector", impl.SkyBadArgs}, {"sector z", impl.SkyBadArgs}, {"sector z 0 0 0 0 1", impl.SkyBadArgs}, {"sector z 0 0 0 0 1 1 1", impl.SkyBadArgs}, {"sector 0 0 0 0 1 1", impl.SkyBadArgs}, {"sector z 9 9 9 9 9 x", impl.SkyBadArgs}}
	for _, n := range badNumbers {
		for i := range 6 {
			words := strings.Fields("sector z 0 0 0 0 1 1")
			words[2+i] = n
			cases = append(cases, lineCase{strings.Join(words, " "), impl.SkyBadArgs})
		}
	}
	for _, name := range badNames {
		cases = append(cases, lineCase{"sector " + name + " 0 0 0 0 1 1", impl.SkyBadArgs}, lineCase{"sector " + name + " 9 0 0 0 1 1", impl.SkyBadArgs})
	}
	wantLines(t, smallText(), cases)
}

func TestSkyParseArgsOfRunways(t *testing.T) {
	cases := []lineCase{{"runway", impl.SkyBadArgs}, {"runway z", impl.SkyBadArgs}, {"runway z 1 2", impl.SkyBadArgs}, {"runway z 1 2 n n", impl.SkyBadArgs}, {"runway z 1 n", impl.SkyBadArgs}, {"runway 1 2 n", impl.SkyBadArgs}}
	for _, turn := range []string{"N", "up", "en", "es", "wn", "nn", "north", "1", "8", "0", "nee", "x", "-", "ne.", "n,"} {
		cases = append(cases, lineCase{"runway z 1 2 " + turn, impl.SkyBadArgs}, lineCase{"runway r1 9 9 " + turn, impl.SkyBadArgs})
	}
	for _, n := range badNumbers {
		cases = append(cases, lineCase{"runway z " + n + " 2 e", impl.SkyBadArgs}, lineCase{"runway z 1 " + n + " e", impl.SkyBadArgs})
	}
	for _, name := range badNames {
		cases = append(cases, lineCase{"runway " + name + " 1 2 n", impl.SkyBadArgs})
	}
	wantLines(t, smallText(), cases)
}

func TestSkyParseOutside(t *testing.T) {
	cases := []lineCase{
		{"point z 5 0", impl.SkyOutside}, {"point z 0 4", impl.SkyOutside}, {"point z 4 4", impl.SkyOutside}, {"point z 9999 0", impl.SkyOutside}, {"point z 0 9999", impl.SkyOutside},
		{"sector z 5 0 5 0 1 1", impl.SkyOutside}, {"sector z 0 0 5 0 1 1", impl.SkyOutside}, {"sector z 0 4 0 4 1 1", impl.SkyOutside}, {"sector z 0 0 0 4 1 1", impl.SkyOutside},
		{"sector z 1 0 0 0 1 1", impl.SkyOutside}, {"sector z 0 1 0 0 1 1", impl.SkyOutside}, {"sector z 0 0 0 0 2 1", impl.SkyOutside},
		{"sector z 0 0 0 0 0 1", impl.SkyOutside}, {"sector z 0 0 0 0 0 0", impl.SkyOutside}, {"sector z 0 0 0 0 1 4", impl.SkyOutside}, {"sector z 0 0 0 0 4 4", impl.SkyOutside},
		{"sector z 0 0 9999 9999 1 9999", impl.SkyOutside}, {"sector z 9999 9999 9999 9999 9999 9999", impl.SkyOutside},
		{"runway z 5 1 w", impl.SkyOutside}, {"runway z 1 4 s", impl.SkyOutside}, {"runway z 9999 9999 n", impl.SkyOutside}, {"runway z 5 4 ne", impl.SkyOutside},
	}
	// The cell ahead: a runway at each edge and corner cell, in each turn.
	s := smallSky()
	for x := range s.Width {
		for y := range s.Height {
			for i, turn := range strings.Fields("n ne e se s sw w nw") {
				if !inSky(s, x-turnX[i+1], y-turnY[i+1]) {
					cases = append(cases, lineCase{fmt.Sprintf("runway z %d %d %s", x, y, turn), impl.SkyOutside})
				}
			}
		}
	}
	wantLines(t, smallText(), cases)
}

func TestSkyParseAgainAndTaken(t *testing.T) {
	wantLines(t, smallText(), []lineCase{
		{"point a 1 1", impl.SkyAgain}, {"point b 4 2", impl.SkyAgain}, {"point a 0 0", impl.SkyAgain}, {"point a 4 3", impl.SkyAgain},
		{"airway j1 a c", impl.SkyAgain}, {"airway j2 a c b", impl.SkyAgain}, {"airway j2 x y", impl.SkyAgain},
		{"runway r1 2 2 n", impl.SkyAgain}, {"runway r2 3 1 w", impl.SkyAgain}, {"runway r1 3 1 w", impl.SkyAgain},
		{"point z 0 0", impl.SkyTaken}, {"point z 4 3", impl.SkyTaken}, {"point r1 2 1", impl.SkyTaken},
		{"runway z 1 1 n", impl.SkyTaken}, {"runway z 3 1 w", impl.SkyTaken}, {"runway a 3 1 e", impl.SkyTaken},
		{"sector z 0 0 0 0 1 1", impl.SkyTaken}, {"sector one 0 0 0 0 1 1", impl.SkyTaken}, {"sector two 4 3 4 3 3 3", impl.SkyTaken}, {"sector z 0 0 4 3 1 3", impl.SkyTaken},
		// What is first in the table is told.
		{"point a 5 0", impl.SkyOutside}, {"point a 5 x", impl.SkyBadArgs}, {"runway r1 0 0 ne", impl.SkyOutside}, {"runway r1 1 1 up", impl.SkyBadArgs}, {"sector one 0 0 5 0 1 1", impl.SkyOutside},
	})
}

func TestSkyParseNamesOfOtherKindsAndSharedCells(t *testing.T) {
	// A point, an airway, a sector and a runway may have one name, and a point and a runway one cell.
	text := "sky 2 1 1\npoint a 1 0\nairway a a b\nsector a 0 0 1 0 1 1\nrunway a 1 0 e\npoint b 0 0\n"
	wantSky(t, text, impl.Sky{
		Width: 2, Height: 1, Levels: 1,
		Points:  []impl.SkyPoint{{Name: "a", X: 1}, {Name: "b"}},
		Airways: []impl.SkyAirway{{Name: "a", Points: []string{"a", "b"}}},
		Sectors: []impl.SkySector{{Name: "a", Blocks: []impl.SkyBlock{{X1: 1, Low: 1, High: 1}}}},
		Runways: []impl.SkyRunway{{Name: "a", X: 1, Turn: 3}},
	})
	// The words of the table are names as others are.
	wantSky(t, "sky 1 1 1\nsector sky 0 0 0 0 1 1\npoint point 0 0\n", impl.Sky{
		Width: 1, Height: 1, Levels: 1,
		Points:  []impl.SkyPoint{{Name: "point"}},
		Sectors: []impl.SkySector{{Name: "sky", Blocks: []impl.SkyBlock{{Low: 1, High: 1}}}},
	})
}

func TestSkyParseTooMany(t *testing.T) {
	text := textOf(skyLines(fullSky()))
	wantSky(t, text, fullSky())
	wantLines(t, text, []lineCase{
		{"point z 1 1", impl.SkyTooMany}, {"point point-00 1 1", impl.SkyAgain}, {"point z 0 15", impl.SkyTaken}, {"point z 16 0", impl.SkyOutside},
		{"airway z point-00 point-01", impl.SkyTooMany}, {"airway z x y", impl.SkyTooMany}, {"airway away0000 x y", impl.SkyAgain}, {"airway z x x", impl.SkyBadArgs},
		{"runway z 1 1 n", impl.SkyTooMany}, {"runway runway-0 1 1 n", impl.SkyAgain}, {"runway z 15 15 n", impl.SkyTaken}, {"runway z 0 0 n", impl.SkyOutside},
		{"sector level--0 0 0 0 0 1 1", impl.SkyTaken}, {"sector z 0 0 0 0 1 1", impl.SkyTaken},
	})
}

func TestSkyParseTooManyBlocks(t *testing.T) {
	four := "sky 8 1 1\nsector a 0 0 0 0 1 1\nsector a 1 0 1 0 1 1\nsector b 2 0 2 0 1 1\nsector a 3 0 3 0 1 1\nsector a 4 0 4 0 1 1\n"
	wantLines(t, four, []lineCase{{"sector a 5 0 5 0 1 1", impl.SkyTooMany}, {"sector a 4 0 5 0 1 1", impl.SkyTaken}, {"sector a 5 0 8 0 1 1", impl.SkyOutside}})
	wantFault(t, four+"sector b 5 0 5 0 1 1\n", 8, impl.SkyHole)
	wantFault(t, four+"sector c 5 0 5 0 1 1\n", 8, impl.SkyHole)
	six := "sky 8 1 1\n"
	for i, name := range strings.Fields("f e d c b a") {
		six += fmt.Sprintf("sector %s %d 0 %d 0 1 1\n", name, i, i)
	}
	wantLines(t, six, []lineCase{{"sector g 6 0 6 0 1 1", impl.SkyTooMany}, {"sector aa 6 0 7 0 1 1", impl.SkyTooMany}, {"sector g 5 0 5 0 1 1", impl.SkyTaken}})
	wantFault(t, six+"sector a 6 0 6 0 1 1\n", 9, impl.SkyHole)
	s, f := impl.SkyParse(six + "sector f 7 0 7 0 1 1\nsector a 6 0 6 0 1 1\n")
	if f != (impl.SkyFault{}) || !validByPlaces(s) || len(s.Sectors) != 6 {
		t.Errorf("%+v of %+v", f, s)
	}
}

func TestSkyParseTooManyOfEachKind(t *testing.T) {
	head := "sky 16 16 1\nsector a 0 0 15 15 1 1\n"
	kinds := []struct {
		most int
		line func(i int) string
	}{
		{16, func(i int) string { return fmt.Sprintf("point p%d %d %d\n", i, 15-i%16, i/16) }},
		{8, func(i int) string { return fmt.Sprintf("airway j%d p0 p1\n", i) }},
		{4, func(i int) string { return fmt.Sprintf("runway r%d %d 1 n\n", i, i) }},
	}
	for _, k := range kinds {
		text := head
		if k.most != impl.SkyMaxPoints {
			text += "point p0 15 15\npoint p1 14 15\n"
		}
		for i := range k.most {
			text += k.line(i)
		}
		if _, f := impl.SkyParse(text); f != (impl.SkyFault{}) {
			t.Errorf("%+v of %q", f, text)
		}
		wantLines(t, text, []lineCase{{strings.TrimSuffix(k.line(k.most), "\n"), impl.SkyTooMany}})
	}
}

func TestSkyParseWithoutAnySky(t *testing.T) {
	for text, lines := range map[string]int{"": 0, "\n": 1, " ": 1, "#": 1, "# sky 1 1 1": 1, "\n\n": 2, "  \n#\n \n": 3, "\n\n#": 3, "# \x01\xff\n": 1} {
		wantFault(t, text, lines+1, impl.SkyNoSky)
	}
	wantFault(t, strings.Repeat("\n", 200), 201, impl.SkyNoSky)
	wantFault(t, strings.Repeat("\n", 199)+"#", 201, impl.SkyNoSky)
	wantFault(t, "\n\nx\n", 3, impl.SkyNoSky)
	wantFault(t, "#\n\nsky 1 1\n", 3, impl.SkyBadArgs)
}

func TestSkyParsePointsThatAreNotThere(t *testing.T) {
	head := "sky 2 2 1\nsector a 0 0 1 1 1 1\n"
	wantFault(t, head+"airway j a b\n", 3, impl.SkyNoPoint)
	wantFault(t, head+"airway j a b\npoint a 0 0\n", 3, impl.SkyNoPoint)
	wantFault(t, head+"airway j a b\npoint b 0 0\n", 3, impl.SkyNoPoint)
	wantFault(t, head+"point a 0 0\npoint b 0 1\nairway j a b\n\nairway z a c\nairway k c a\n", 7, impl.SkyNoPoint)
	wantFault(t, head+"airway z a c\nairway k b a\npoint a 0 0\npoint b 1 1\n", 3, impl.SkyNoPoint)
	wantFault(t, head+"airway z a b\nairway k c b a\npoint a 0 0\npoint b 1 1\n", 4, impl.SkyNoPoint)
	// A runway or a sector of this name is no point.
	wantFault(t, head+"point b 1 1\nrunway c 0 1 w\nairway z b a\n", 5, impl.SkyNoPoint)
	wantFault(t, head+"point b 1 1\nrunway c 0 1 w\nairway z b c\n", 5, impl.SkyNoPoint)
	// Ahead of a hole, behind each fault of a line.
	wantFault(t, "sky 2 2 1\nairway z a b\n", 2, impl.SkyNoPoint)
	wantFault(t, head+"airway z a b\npoint a 0 0\npoint a 0 0\n", 5, impl.SkyAgain)
	wantFault(t, head+"airway z a b\npoint a 0 0\nx\n", 5, impl.SkyNoKey)
	wantSky(t, head+"airway j b a\npoint a 0 1\npoint b 1 0\n", impl.Sky{
		Width: 2, Height: 2, Levels: 1,
		Points:  []impl.SkyPoint{{Name: "a", Y: 1}, {Name: "b", X: 1}},
		Airways: []impl.SkyAirway{{Name: "j", Points: []string{"b", "a"}}},
		Sectors: []impl.SkySector{{Name: "a", Blocks: []impl.SkyBlock{{X1: 1, Y1: 1, Low: 1, High: 1}}}},
	})
}

func TestSkyParseHoles(t *testing.T) {
	wantFault(t, "sky 1 1 1", 2, impl.SkyHole)
	wantFault(t, "sky 1 1 1\n\n#\n", 4, impl.SkyHole)
	wantFault(t, "sky 1 1 1\n\n#", 4, impl.SkyHole)
	// Without one place, whichever it is.
	for x := range 3 {
		for y := range 2 {
			for level := 1; level <= 2; level++ {
				text := "sky 3 2 2\n"
				for place := range 12 {
					px, py, pl := place%3, place/3%2, place/6+1
					if px != x || py != y || pl != level {
						text += fmt.Sprintf("sector s%d %d %d %d %d %d %d\n", place/4, px, py, px, py, pl, pl)
					}
				}
				wantFault(t, text, 13, impl.SkyHole)
				if _, f := impl.SkyParse(text + fmt.Sprintf("sector z %d %d %d %d %d %d\n", x, y, x, y, level, level)); f != (impl.SkyFault{}) {
					t.Errorf("%+v of %q", f, text)
				}
			}
		}
	}
}

func TestSkyParseLongTexts(t *testing.T) {
	text := smallText()
	room := 10000 - len(text)
	wantSky(t, text+"#"+strings.Repeat("x", room-1), smallSky())
	wantSky(t, text+strings.Repeat(" ", room-1)+"\n", smallSky())
	for _, wrong := range []string{text, "x\n" + text, "\x01", "", "sky"} {
		wantFault(t, wrong+"#"+strings.Repeat("x", 10000-len(wrong)), 0, impl.SkyTooLong)
		wantFault(t, wrong+strings.Repeat("\n", 10001-len(wrong)), 0, impl.SkyTooLong)
		wantFault(t, wrong+strings.Repeat("\xff", 1000000), 0, impl.SkyTooLong)
	}
	lines := strings.Count(text, "\n")
	wantSky(t, text+strings.Repeat("\n", 200-lines), smallSky())
	wantSky(t, text+strings.Repeat("\n", 199-lines)+"  #", smallSky())
	wantFault(t, text+strings.Repeat("\n", 201-lines), 0, impl.SkyTooLong)
	wantFault(t, text+strings.Repeat("\n", 200-lines)+" ", 0, impl.SkyTooLong)
	wantFault(t, "x\n"+text+strings.Repeat("\n", 200-lines), 0, impl.SkyTooLong)
	wantFault(t, text+strings.Repeat("\n", 199-lines)+"x", 200, impl.SkyNoKey)
	wantFault(t, "sky 1 1 1"+strings.Repeat("\n", 200), 201, impl.SkyHole)
}

func TestSkyParseLinesThatCountForNothing(t *testing.T) {
	var spread []string
	for _, line := range skyLines(smallSky()) {
		spread = append(spread, "", "   ", "# \x01 of no weight", "  "+strings.ReplaceAll(line, " ", "   ")+"  #"+strings.Repeat("x", 30)+"\xff")
	}
	wantSky(t, textOf(spread), smallSky())
	wantSky(t, strings.TrimSuffix(smallText(), "\n"), smallSky())
	wantFault(t, textOf(append(spread, "", "runway r1")), len(spread)+2, impl.SkyBadArgs)
	wantFault(t, "sky 1 1 1#\n#\nsector a 0 0 0 0 1 #1\n", 3, impl.SkyBadArgs)
}

func block(x0, y0, x1, y1, low, high int) impl.SkyBlock {
	return impl.SkyBlock{X0: x0, Y0: y0, X1: x1, Y1: y1, Low: low, High: high}
}

func TestSkyParseBlocksSaidApart(t *testing.T) {
	lines := []string{"sector b 0 0 0 1 1 1", "sector a 1 1 1 1 1 2", "sector b 0 1 0 1 2 2", "sector a 1 0 1 0 2 2", "sector b 0 0 0 0 2 2", "sector a 1 0 1 0 1 1"}
	want := impl.Sky{Width: 2, Height: 2, Levels: 2, Sectors: []impl.SkySector{
		{Name: "a", Blocks: []impl.SkyBlock{block(1, 0, 1, 0, 1, 1), block(1, 0, 1, 0, 2, 2), block(1, 1, 1, 1, 1, 2)}},
		{Name: "b", Blocks: []impl.SkyBlock{block(0, 0, 0, 1, 1, 1), block(0, 0, 0, 0, 2, 2), block(0, 1, 0, 1, 2, 2)}},
	}}
	r := rand.New(rand.NewPCG(5, 1))
	for range 300 {
		wantSky(t, textOf(mixLines(r, append([]string{"sky 2 2 2"}, lines...))), want)
	}
}

func TestSkyParseOfSkyPrint(t *testing.T) {
	r := rand.New(rand.NewPCG(5, 2))
	skies := []impl.Sky{smallSky(), fullSky(), coverSky(1, 1, 1), coverSky(16, 16, 6)}
	for range 1500 {
		skies = append(skies, drawSky(r))
	}
	for _, s := range skies {
		text := impl.SkyPrint(s)
		wantSky(t, text, s)
		lines := strings.Split(strings.TrimSuffix(text, "\n"), "\n")
		for range 3 {
			wantSky(t, textOf(mixLines(r, lines)), s)
		}
	}
}

func TestSkyFaultsHangOnNothingBehind(t *testing.T) {
	r := rand.New(rand.NewPCG(5, 3))
	seen := map[int]int{}
	for range 6000 {
		text := drawText(r)
		_, f := impl.SkyParse(text)
		lines := strings.Split(strings.TrimSuffix(text, "\n"), "\n")
		if f.Code < 1 || f.Code > 8 || f.Line > len(lines) {
			continue
		}
		seen[f.Code]++
		ahead := lines[:f.Line]
		wantFault(t, textOf(ahead), f.Line, f.Code)
		for range 3 {
			behind := strings.Split(strings.TrimSuffix(drawText(r), "\n"), "\n")
			wantFault(t, textOf(append(slices.Clone(ahead), behind[:r.IntN(len(behind)+1)]...)), f.Line, f.Code)
		}
		// No line ahead of it has one.
		if _, g := impl.SkyParse(textOf(ahead[:f.Line-1])); g.Code != 0 && g.Code != 9 && g.Line < f.Line {
			t.Errorf("%+v ahead of %+v, of %q", g, f, text)
		}
	}
	for code := 1; code <= 8; code++ {
		if seen[code] < 50 {
			t.Errorf("code %d came %d times", code, seen[code])
		}
	}
}

func TestSkyTextsAtRandom(t *testing.T) {
	r := rand.New(rand.NewPCG(5, 4))
	seen := map[int]int{}
	for range 12000 {
		text := drawText(r)
		said, want := faultByTable(text)
		s, f := impl.SkyParse(text)
		seen[want.Code]++
		if f != want {
			t.Fatalf("fault %+v, not %+v, of %q", f, want, text)
		}
		if f.Code != 0 {
			continue
		}
		if !impl.SkyValid(s) || !validByPlaces(s) {
			t.Fatalf("not valid: %+v, of %q", s, text)
		}
		var lines []string
		for _, l := range said[1:] {
			lines = append(lines, strings.Join(l.words, " "))
		}
		got := skyLines(s)
		if got[0] != strings.Join(said[0].words, " ") || !slices.Equal(slices.Sorted(slices.Values(got[1:])), slices.Sorted(slices.Values(lines))) {
			t.Fatalf("%+v is not what is said by %q", s, text)
		}
	}
	for code := range 11 {
		if seen[code] < 50 {
			t.Errorf("code %d came %d times", code, seen[code])
		}
	}
}

func TestSkyParseGivesNewMemory(t *testing.T) {
	for _, want := range []impl.Sky{smallSky(), fullSky()} {
		text := textOf(skyLines(want))
		first, _ := impl.SkyParse(text)
		second, _ := impl.SkyParse(text)
		// Each list is written over up to the end of its room, one after the other: no other one may change.
		for i := range first.Airways {
			fillList(first.Airways[i].Points, "over")
			first.Airways[i].Points = want.Airways[i].Points
			checkSame(t, first, want)
		}
		for i := range first.Sectors {
			fillList(first.Sectors[i].Blocks, impl.SkyBlock{X0: 99})
			first.Sectors[i].Blocks = want.Sectors[i].Blocks
			checkSame(t, first, want)
		}
		fillList(first.Points, impl.SkyPoint{Name: "over"})
		fillList(first.Runways, impl.SkyRunway{Name: "over"})
		fillList(first.Airways, impl.SkyAirway{Name: "over"})
		checkSame(t, impl.Sky{Width: first.Width, Height: first.Height, Levels: first.Levels, Points: want.Points, Airways: want.Airways, Runways: want.Runways, Sectors: first.Sectors}, want)
		fillList(first.Sectors, impl.SkySector{Name: "over"})
		checkSame(t, second, want)
		third, _ := impl.SkyParse(text)
		checkSame(t, third, want)
	}
}

// fillList writes a value over a list, up to the end of its room.
func fillList[T any](list []T, value T) {
	list = list[:cap(list)]
	for i := range list {
		list[i] = value
	}
}

func checkSame(t *testing.T, got, want impl.Sky) {
	t.Helper()
	if !sameSky(got, want) {
		t.Errorf("%+v, not %+v", got, want)
	}
}

func TestSkyParseOfAnyBytes(t *testing.T) {
	r := rand.New(rand.NewPCG(5, 5))
	for range 3000 {
		text := otherBytes(r, drawText(r))
		_, want := faultByTable(text)
		if _, f := impl.SkyParse(text); f != want {
			t.Fatalf("fault %+v, not %+v, of %q", f, want, text)
		}
	}
}
