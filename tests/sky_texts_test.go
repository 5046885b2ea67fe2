package tests

import (
	"fmt"
	"math/rand/v2"
	"reflect"
	"regexp"
	"slices"
	"strconv"
	"strings"

	"loop.example/lapwing/impl"
)

// skyLines are the lines that say a sky, in the order of chapter 4.
func skyLines(s impl.Sky) []string {
	lines := []string{fmt.Sprintf("sky %d %d %d", s.Width, s.Height, s.Levels)}
	for _, p := range s.Points {
		lines = append(lines, fmt.Sprintf("point %s %d %d", p.Name, p.X, p.Y))
	}
	for _, a := range s.Airways {
		lines = append(lines, "airway "+a.Name+" "+strings.Join(a.Points, " "))
	}
	for _, n := range s.Sectors {
		for _, b := range n.Blocks {
			lines = append(lines, fmt.Sprintf("sector %s %d %d %d %d %d %d", n.Name, b.X0, b.Y0, b.X1, b.Y1, b.Low, b.High))
		}
	}
	for _, r := range s.Runways {
		lines = append(lines, fmt.Sprintf("runway %s %d %d %s", r.Name, r.X, r.Y, strings.Fields("n ne e se s sw w nw")[r.Turn-1]))
	}
	return lines
}

func textOf(lines []string) string {
	if len(lines) == 0 {
		return ""
	}
	return strings.Join(lines, "\n") + "\n"
}

// mixLines are the same lines, those behind the first in another order.
func mixLines(r *rand.Rand, lines []string) []string {
	lines = slices.Clone(lines)
	rest := lines[1:]
	r.Shuffle(len(rest), func(i, k int) { rest[i], rest[k] = rest[k], rest[i] })
	return lines
}

// plainSky is a sky in which all empty lists are nil, so that skies can be held against each other.
func plainSky(s impl.Sky) impl.Sky {
	s = cloneSky(s)
	s.Points, s.Airways, s.Sectors, s.Runways = plainList(s.Points), plainList(s.Airways), plainList(s.Sectors), plainList(s.Runways)
	for i, a := range s.Airways {
		s.Airways[i].Points = plainList(a.Points)
	}
	for i, n := range s.Sectors {
		s.Sectors[i].Blocks = plainList(n.Blocks)
	}
	return s
}

func plainList[T any](list []T) []T {
	if len(list) == 0 {
		return nil
	}
	return list
}

func sameSky(a, b impl.Sky) bool {
	return reflect.DeepEqual(plainSky(a), plainSky(b))
}

const (
	numberWord = ` (0|[1-9][0-9]{0,3})`
	nameWord   = ` [a-z0-9-]{1,8}`
)

// lineForms are what the words of a line look like, by its first one.
var lineForms = map[string]*regexp.Regexp{
	"sky":    regexp.MustCompile(`^sky(` + numberWord + `){3}$`),
	"point":  regexp.MustCompile(`^point` + nameWord + `(` + numberWord + `){2}$`),
	"airway": regexp.MustCompile(`^airway` + nameWord + `(` + nameWord + `){2,8}$`),
	"sector": regexp.MustCompile(`^sector` + nameWord + `(` + numberWord + `){6}$`),
	"runway": regexp.MustCompile(`^runway` + nameWord + `(` + numberWord + `){2} (n|ne|e|se|s|sw|w|nw)$`),
}

// saidLine is a line that counts.
type saidLine struct {
	at    int
	words []string
}

func (l saidLine) number(i int) int {
	n, err := strconv.Atoi(l.words[i])
	if err != nil {
		panic(err)
	}
	return n
}

// named are the lines of this kind and name.
func named(said []saidLine, kind, name string) []saidLine {
	var found []saidLine
	for _, l := range said[1:] {
		if l.words[0] == kind && (name == "" || l.words[1] == name) {
			found = append(found, l)
		}
	}
	return found
}

func (l saidLine) hasPlace(x, y, level int) bool {
	return l.number(2) <= x && x <= l.number(4) && l.number(3) <= y && y <= l.number(5) && l.number(6) <= level && level <= l.number(7)
}

// faultByTable says what chapter 3 says, in another way: each line is asked for each code, and all lines
// ahead of it are read anew for that. It gives the lines that count as well.
func faultByTable(text string) ([]saidLine, impl.SkyFault) {
	lines := strings.Split(text, "\n")
	if lines[len(lines)-1] == "" {
		lines = lines[:len(lines)-1]
	}
	if len(text) > 10000 || len(lines) > 200 {
		return nil, impl.SkyFault{Line: 0, Code: 11}
	}
	var said []saidLine
	for i, line := range lines {
		words, ok := wordsByBytes(line)
		if !ok {
			return nil, impl.SkyFault{Line: i + 1, Code: 1}
		}
		if len(words) == 0 {
			continue
		}
		said = append(said, saidLine{at: i + 1, words: words})
		if code := lineByTable(said); code != 0 {
			return nil, impl.SkyFault{Line: i + 1, Code: code}
		}
	}
	if len(said) == 0 {
		return nil, impl.SkyFault{Line: len(lines) + 1, Code: 2}
	}
	for _, a := range named(said, "airway", "") {
		for _, point := range a.words[2:] {
			if len(named(said, "point", point)) == 0 {
				return nil, impl.SkyFault{Line: a.at, Code: 9}
			}
		}
	}
	s := impl.Sky{Width: said[0].number(1), Height: said[0].number(2), Levels: said[0].number(3)}
	for place := range s.Width * s.Height * s.Levels {
		x, y, level := place%s.Width, place/s.Width%s.Height, place/s.Width/s.Height+1
		if !slices.ContainsFunc(named(said, "sector", ""), func(l saidLine) bool { return l.hasPlace(x, y, level) }) {
			return nil, impl.SkyFault{Line: len(lines) + 1, Code: 10}
		}
	}
	return said, impl.SkyFault{}
}

// lineByTable is the fault, of codes 2 to 8, of the last of some lines.
func lineByTable(said []saidLine) int {
	last := len(said) - 1
	l, ahead := said[last], said[:last]
	kind := l.words[0]
	form, known := lineForms[kind]
	fits := known && form.MatchString(strings.Join(l.words, " "))
	switch {
	case last == 0 && kind != "sky":
		return 2
	case last == 0 && !fits:
		return 4
	case last == 0 && (l.number(1) < 1 || l.number(1) > 16 || l.number(2) < 1 || l.number(2) > 16 || l.number(3) < 1 || l.number(3) > 6):
		return 5
	case last == 0:
		return 0
	case !known:
		return 3
	case kind == "sky":
		return 6
	case !fits, kind == "airway" && len(slices.Compact(slices.Sorted(slices.Values(l.words[2:])))) != len(l.words[2:]):
		return 4
	case kind != "airway" && outsideByTable(ahead[0], l):
		return 5
	case kind != "sector" && len(named(ahead, kind, l.words[1])) > 0:
		return 6
	case kind != "airway" && takenByTable(ahead, l):
		return 7
	case kind == "sector" && tooManyBlocks(ahead, l.words[1]):
		return 8
	case kind != "sector" && len(named(ahead, kind, "")) >= map[string]int{"point": 16, "airway": 8, "runway": 4}[kind]:
		return 8
	}
	return 0
}

func outsideByTable(size, l saidLine) bool {
	s := impl.Sky{Width: size.number(1), Height: size.number(2)}
	switch l.words[0] {
	case "point":
		return !inSky(s, l.number(2), l.number(3))
	case "runway":
		turn := slices.Index(strings.Fields("n ne e se s sw w nw"), l.words[4]) + 1
		x, y := l.number(2), l.number(3)
		return !inSky(s, x, y) || !inSky(s, x-turnX[turn], y-turnY[turn])
	}
	for i, end := range []int{s.Width - 1, s.Height - 1, size.number(3)} {
		low, high := l.number(2+i), l.number(4+i)
		least := 0
		if i == 2 {
			low, high, least = l.number(6), l.number(7), 1
		}
		if low < least || low > high || high > end {
			return true
		}
	}
	return false
}

func takenByTable(ahead []saidLine, l saidLine) bool {
	for _, other := range named(ahead, l.words[0], "") {
		if l.words[0] != "sector" {
			if other.number(2) == l.number(2) && other.number(3) == l.number(3) {
				return true
			}
			continue
		}
		for x := l.number(2); x <= l.number(4); x++ {
			for y := l.number(3); y <= l.number(5); y++ {
				for level := l.number(6); level <= l.number(7); level++ {
					if other.hasPlace(x, y, level) {
						return true
					}
				}
			}
		}
	}
	return false
}

func tooManyBlocks(ahead []saidLine, sector string) bool {
	var names []string
	for _, l := range named(ahead, "sector", "") {
		names = append(names, l.words[1])
	}
	slices.Sort(names)
	blocks := len(named(ahead, "sector", sector))
	return blocks == 4 || blocks == 0 && len(slices.Compact(names)) == 6
}

// bendLines changes lines at random, so that some of them have faults.
func bendLines(r *rand.Rand, lines []string) []string {
	pool := strings.Fields("sky point airway sector runway n ne e se s sw w nw a b c z 0 1 2 3 4 7 15 16 17 00 01 9999 10000 -1 a_b abcdefghi toolongtoolongtoolongtoolo \x01 \xff")
	i := r.IntN(len(lines))
	words := strings.Split(lines[i], " ")
	switch at := r.IntN(len(words)); r.IntN(10) {
	case 0:
		words = slices.Delete(words, at, at+1)
	case 1:
		words = slices.Insert(words, at+1, words[at])
	case 2:
		words[at] = pool[r.IntN(len(pool))]
	case 3:
		other := strings.Split(lines[r.IntN(len(lines))], " ")
		words[at] = other[min(at, len(other)-1)]
	case 4:
		if n, err := strconv.Atoi(words[at]); err == nil {
			words[at] = strconv.Itoa(n + r.IntN(3) - 1)
		}
	case 5:
		if len(lines) > 1 {
			return slices.Delete(lines, i, i+1)
		}
	case 6:
		return slices.Insert(lines, r.IntN(len(lines)+1), lines[i])
	case 7:
		return slices.Insert(lines, r.IntN(len(lines)+1), []string{"", "  ", "# \x01 a b", " #"}[r.IntN(4)])
	case 8:
		words = append(words, []string{"", "# to the end", "#", "\t"}[r.IntN(4)])
	case 9:
		words = slices.Insert(words, at, "")
	}
	lines[i] = strings.Join(words, " ")
	return lines
}

// extraLines are lines that a sky may have too many of.
func extraLines(r *rand.Rand, s impl.Sky) []string {
	var lines []string
	for i := range r.IntN(20) {
		x, y := r.IntN(s.Width), r.IntN(s.Height)
		switch kind := r.IntN(4); kind {
		case 0:
			lines = append(lines, fmt.Sprintf("point x%d %d %d", i, x, y))
		case 1:
			lines = append(lines, fmt.Sprintf("airway x%d a b", i))
		case 2:
			lines = append(lines, fmt.Sprintf("runway x%d %d %d %s", i, x, y, strings.Fields("n e s w")[r.IntN(4)]))
		case 3:
			lines = append(lines, fmt.Sprintf("sector x%d %d %d %d %d 1 1", i%7, x, y, x, y))
		}
	}
	return lines
}

// drawText is the text of a sky, changed at random; some have faults of one kind or another.
func drawText(r *rand.Rand) string {
	s := drawSky(r)
	lines := mixLines(r, skyLines(s))
	if r.IntN(3) == 0 {
		lines = append(lines, extraLines(r, s)...)
		lines = mixLines(r, lines)
		// Without some blocks of the sky, others find room.
		lines = slices.DeleteFunc(lines, func(line string) bool { return strings.HasPrefix(line, "sector ") && r.IntN(2) == 0 })
	}
	for range r.IntN(4) {
		lines = bendLines(r, lines)
	}
	return openEnd(r, textOf(lines))
}

// openEnd is a text, at times without the newline at its end.
func openEnd(r *rand.Rand, text string) string {
	if r.IntN(3) == 0 {
		return strings.TrimSuffix(text, "\n")
	}
	return text
}

// otherBytes is a text with some bytes of it changed to any others.
func otherBytes(r *rand.Rand, text string) string {
	bytes := []byte(text)
	for range 1 + r.IntN(3) {
		if len(bytes) > 0 {
			bytes[r.IntN(len(bytes))] = byte(r.IntN(256))
		}
	}
	return string(bytes)
}
