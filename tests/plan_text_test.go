package tests

import (
	"fmt"
	"math/rand/v2"
	"reflect"
	"slices"
	"strings"
	"testing"

	"loop.example/lapwing/impl"
)

// planHead is the text of smallBook: two kinds, three points, five changes of two flights.
func planHead() string {
	return textOf(planLines(smallBook()))
}

// wantPlanLines lets each line stand behind a text, alone and with more behind it, and asks for its fault.
func wantPlanLines(t *testing.T, text string, code int, lines ...string) {
	t.Helper()
	at := strings.Count(text, "\n") + 1
	for _, line := range lines {
		for _, behind := range []string{"", "\n", "\nx\n", "\n\n", "\nkind glider 1 1\n", "\nset d state 0 open"} {
			wantPlanFault(t, text+line+behind, at, code)
		}
	}
}

// wantPlanTaken lets each line stand behind a text, and asks for the book with it.
func wantPlanTaken(t *testing.T, text string, lines ...string) {
	t.Helper()
	for _, line := range lines {
		want, f := planFaultByTable(text + line)
		if f != (impl.PlanFault{}) {
			t.Errorf("fault %+v by the table, of %.300q", f, text+line)
		}
		wantPlanBook(t, text+line, want)
		wantPlanBook(t, text+line+"\n", want)
	}
}

func TestPlanTextLimits(t *testing.T) {
	if impl.PlanMaxText != 10000 || impl.PlanMaxLines != 200 {
		t.Error("not the numbers of the document", impl.PlanMaxText, impl.PlanMaxLines)
	}
}

func TestPlanParseByHand(t *testing.T) {
	wantPlanBook(t, planHead(), smallBook())
	wantPlanBook(t, strings.TrimSuffix(planHead(), "\n"), smallBook())
	wantPlanBook(t, "", impl.PlanBook{})
	text := "set m state 1 open\npoint c 1 5\nset m level 2 6\nkind jet 1 2\nset m kind 3 jet\npoint a 0 0\nset d time 5 5 6\nkind glider 3 9\nset m level 3 4\npoint b 5 1\nset d route 2 a b\nset m level 1 1\nset d time 5 10 10\n"
	wantPlanBook(t, text, smallBook())
	wantPlanBook(t, "kind jet 1 2", impl.PlanBook{Base: impl.PlanBase{Kinds: []impl.PlanKind{{Name: "jet", Quick: 1, Slow: 2}}}})
	wantPlanBook(t, "point a 3 4", impl.PlanBook{Base: impl.PlanBase{Points: []impl.PlanPoint{{Name: "a", X: 3, Y: 4}}}})
	wantPlanBook(t, "set k state 7 closed", bookOf(impl.PlanBase{}, said("k state 7 closed")))
	// The words of lines are names as others are.
	wantPlanBook(t, "kind kind 1 1\npoint set 0 0\npoint kind 1 0\nset set kind 1 kind\nset kind route 1 set kind\n", impl.PlanBook{
		Base: impl.PlanBase{Kinds: []impl.PlanKind{{Name: "kind", Quick: 1, Slow: 1}}, Points: []impl.PlanPoint{{Name: "kind", X: 1}, {Name: "set"}}},
		Entries: []impl.PlanEntry{
			{Name: "kind", Fields: []impl.PlanField{{What: 4, Number: 1, Value: "set kind"}}},
			{Name: "set", Fields: []impl.PlanField{{What: 1, Number: 1, Value: "kind"}}},
		},
	})
}

func TestPlanParseFirstWords(t *testing.T) {
	for _, text := range []string{"", planHead(), "kind jet 1 2\n"} {
		wantPlanLines(t, text, 2, "x", "Kind z 1 1", "KIND z 1 1", "kinds z 1 1", "kin z 1 1", "points z 9 9", "poin z 9 9", "Point z 9 9", "sets k state 1 open", "se k state 1 open", "Set k state 1 open",
			"sky 1 1 1", "airway z a b", "state 1 open", "0", "-", "#", "# kind z 1 1", "\xff", "\x00", "é", "z kind 1 1", "open", "time", "1 2 3 4", "kindz 1 1", "setk state 1 open",
			" ", "  ", " kind z 1 1", "  kind z 1 1", " point z 9 9", " set k state 1 open", " x",
			"\t", "\tkind z 1 1", "kind\tz 1 1", "kind\tz\t1\t1", "point\tz 9 9", "set\tk state 1 open", "\r", "kind\r", "kind\r z 1 1", "set\r", "kind\x00 z 1 1", "kind\u00a0z 1 1", "\xffkind z 1 1", "kind\xff z 1 1", "\ufeffkind z 1 1",
			strings.Repeat("kind", 500))
	}
}

func TestPlanParseEmptyLines(t *testing.T) {
	wantPlanFault(t, "\n", 1, 2)
	wantPlanFault(t, "\n\n", 1, 2)
	wantPlanFault(t, "\n"+planHead(), 1, 2)
	lines := planLines(smallBook())
	for at := range len(lines) + 1 {
		wantPlanFault(t, textOf(slices.Insert(slices.Clone(lines), at, "")), at+1, 2)
	}
	wantPlanFault(t, planHead()+"\n\n", len(lines)+1, 2)
	wantPlanFault(t, "x\n\n", 1, 2)
}

func TestPlanParseKindsAndPointsOfOtherWords(t *testing.T) {
	for _, text := range []string{"", planHead()} {
		for _, word := range []string{"kind", "point"} {
			wantPlanLines(t, text, 3, word, word+" ", word+" z", word+" z ", word+" z 1", word+" z 1 ", word+" z 1 1 ", word+" z 1 1 1", word+" z 1 1 1 1", word+" 1 1", word+" z z 1 1",
				word+"  z 1 1", word+" z  1 1", word+" z 1  1", word+" z 1 1  ", word+"  1 1", word+" z  1", word+"   ", word+"    ", word+" "+word+" z 1 1",
				word+" z\t1 1", word+" z 1\t1", word+" z 1 1\t", word+" z 1 1\r", word+" z\r 1 1", word+" z 1\r 1", word+" z,1,1", word+" z 1,1", word+" z 1 1 #", word+" z 1 1#", word+" z x y", word+" z 1 z", word+" z z 1")
			for _, name := range noNames {
				if !strings.Contains(name, "\n") {
					wantPlanLines(t, text, 3, word+" "+name+" 1 1")
				}
			}
			for _, number := range []string{"", "00", "01", "000", "001", "0000001", "00000001", "+1", "-1", "-0", "+0", "- 1", "10000000", "10000001", "00000000", "99999999", "18446744073709551617", "4294967297", "1_0", "0x1", "1.", "1.0", "1e0", "a", "-", "+", "1\x00", "\xb1", "١", "/", ":", "1\r", "1\t"} {
				wantPlanLines(t, text, 3, word+" z "+number+" 2", word+" z 1 "+number, word+" z "+number+" "+number)
			}
		}
	}
	for _, name := range someNames {
		wantPlanTaken(t, "kind b 1 1\npoint b 0 0\n", "kind "+name+" 1 1", "point "+name+" 9 9")
	}
}

var numberWords = []string{"0", "1", "2", "9", "10", "14", "15", "16", "17", "49", "50", "51", "52", "99", "100", "255", "256", "999", "1000000", "9999999"}

func TestPlanParseBoundsOfKinds(t *testing.T) {
	for i, quick := range numberWords {
		for k, slow := range numberWords {
			line := "kind z " + quick + " " + slow
			// Up to 50 is place 10; words are in the order of their numbers.
			if i >= 1 && i <= k && k <= 10 {
				wantPlanTaken(t, planHead(), line)
				continue
			}
			wantPlanLines(t, planHead(), 3, line)
		}
	}
}

func TestPlanParseBoundsOfPoints(t *testing.T) {
	head := "point a 3 3\n"
	for i, x := range numberWords {
		for k, y := range numberWords {
			line := "point z " + x + " " + y
			if i <= 6 && k <= 6 {
				wantPlanTaken(t, head, line)
				continue
			}
			wantPlanLines(t, head, 3, line)
		}
	}
}

func TestPlanParseNamesThatAreThere(t *testing.T) {
	wantPlanLines(t, planHead(), 4, "kind jet 1 2", "kind jet 1 1", "kind glider 50 50", "point a 0 0", "point a 9 9", "point b 9 9", "point c 5 1", "point a 5 1", "point c 0 0")
	wantPlanLines(t, planHead(), 3, "kind jet 0 1", "kind jet 2 1", "kind jet 1 51", "kind jet 1", "point a 16 0", "point b 0 16", "point c 5 01", "point a 9 9 9")
	wantPlanTaken(t, planHead(), "kind a 1 2", "kind b 1 2", "point jet 9 9", "point glider 9 9", "kind d 1 2", "point m 9 9", "kind jets 1 1", "kind je 1 1", "point a- 9 9", "kind - 1 1")
	wantPlanLines(t, planHead()+"kind a 1 2\n", 4, "kind a 1 2", "kind a 3 3")
	wantPlanLines(t, planHead()+"point jet 9 9\n", 4, "point jet 9 9", "point jet 8 8")
}

func TestPlanParseCellsThatAreTaken(t *testing.T) {
	wantPlanLines(t, planHead(), 5, "point z 0 0", "point z 5 1", "point z 1 5", "point - 0 0", "point jet 5 1", "point a- 0 0")
	wantPlanTaken(t, planHead(), "point z 0 1", "point z 1 0", "point z 5 0", "point z 5 5", "point z 1 1", "point - 15 15")
	for x := range 16 {
		for y := range 16 {
			text := fmt.Sprintf("point a %d %d\n", x, y)
			wantPlanFault(t, text+fmt.Sprintf("point b %d %d\n", x, y), 2, 5)
			wantPlanFault(t, text+text, 2, 4)
			if x != y {
				wantPlanTaken(t, text, fmt.Sprintf("point b %d %d", y, x))
			}
		}
	}
}

func TestPlanParseTooMany(t *testing.T) {
	text := textOf(planLines(fullBook()))
	wantPlanBook(t, text, fullBook())
	wantPlanLines(t, text, 6, "kind z 1 1", "kind - 50 50", "kind point-00 1 1", "point z 1 1", "point - 0 0", "point kind--00 9 9", "set z state 1 open", "set - level 1 1", "set flight12 state 1 open", "set flight-1 kind 1 kind--00", "set flight0 time 1 1 1")
	wantPlanLines(t, text, 3, "kind z 0 1", "kind z 1", "point z 1 16", "point z 1 1 1", "set z state 0 open", "set z road 1 open", "set z state 1 ")
	wantPlanLines(t, text, 4, "kind kind--00 1 1", "kind kind--05 50 50", "point point-00 1 1", "point point-15 15 0", "point point-15 0 15")
	wantPlanLines(t, text, 5, "point z 0 15", "point z 15 0", "point - 7 8")
	wantPlanLines(t, text, 7, "set z state 1 shut", "set z level 1 7", "set z kind 1 z", "set z route 1 z point-00", "set z time 1 2 1", "set - state 1 open ", "set flight00 level 1 0")
	wantPlanTaken(t, text, "set flight00 level 1 1", "set flight11 state 1000000 open", "set flight11 state 1 open", "set flight05 route 1 point-15 point-08")
}

func TestPlanParseTooManyOfEachKind(t *testing.T) {
	kinds := []struct {
		most int
		line func(i int) string
	}{
		{6, func(i int) string { return fmt.Sprintf("kind k%d 1 %d", 9-i, 1+i) }},
		{16, func(i int) string { return fmt.Sprintf("point p%d %d %d", i, 15-i%16, i/16) }},
		{12, func(i int) string { return fmt.Sprintf("set f%d state %d open", i, 1+i) }},
	}
	for _, k := range kinds {
		for _, head := range []string{"", "kind z 1 1\npoint z 9 9\nset z state 1 open\n"} {
			var lines []string
			for i := range k.most + 1 {
				lines = append(lines, k.line(i))
			}
			most := k.most
			if head != "" {
				most--
			}
			for count := range most {
				wantPlanTaken(t, head+textOf(lines[:count]), lines[count])
			}
			wantPlanLines(t, head+textOf(lines[:most]), 6, lines[most])
		}
	}
}

// A thing more that is said of a flight that is there needs no room.
func TestPlanParseRoomForFlights(t *testing.T) {
	text := textOf(planLines(flightsBook(flightNames(0, 12)...)))
	wantPlanTaken(t, text, "set f00 state 1 open", "set f11 level 2 2", "set f11 level 1 1", "set f05 kind 1 jet")
	wantPlanLines(t, text, 6, "set a state 1 open", "set z level 1 1", "set f0 kind 1 jet", "set f000 route 1 a b")
	wantPlanLines(t, text, 7, "set a state 1 opens", "set z level 1 9", "set f0 kind 1 a", "set f000 route 1 a a", "set f000 route 1 a", "set f12 time 1 1 10001")
	wantPlanLines(t, text, 3, "set a state 1", "set z levels 1 9", "set f0 kind 0 a", "set A state 1 open")
}

func TestPlanParseChangesOfNoForm(t *testing.T) {
	for _, text := range []string{"", planHead()} {
		wantPlanLines(t, text, 3, "set", "set ", "set k", "set k ", "set k state", "set k state ", "set k state 1", "set k state 1 ", "set state 1 open", "set k 1 open", "set k state open", "set k open", "set state", "set k state open 1",
			"set  k state 1 open", "set k  state 1 open", "set k state  1 open", "set  ", "set    ", "set     ", "set \tk state 1 open",
			"set k road 1 open", "set k State 1 open", "set k states 1 open", "set k stat 1 open", "set k set 1 open", "set k point 1 a", "set k open 1 open", "set k 5 1 open", "set k  1 open", "set k name 1 k", "set k time\t1 5 6",
			"set k state 0 open", "set k state 00 open", "set k state 01 open", "set k state -1 open", "set k state +1 open", "set k state 1000001 open", "set k state 9999999 open", "set k state 10000000 open", "set k state 00000001 open", "set k state 1. open", "set k state x open", "set k state 1\r open", "set k level 01 1", "set k level 0 7")
		for _, name := range noNames {
			if !strings.Contains(name, "\n") {
				wantPlanLines(t, text, 3, "set "+name+" state 1 open")
			}
		}
	}
}

// What has a form need not be ok: the value is all that stands behind the number, up to the end of the line.
func TestPlanParseChangesThatAreNotOk(t *testing.T) {
	wantPlanLines(t, planHead(), 7, "set k kind 1 a", "set k kind 1 jets", "set k kind 1 jet ", "set k kind 1  jet", "set k kind 1 jet glider", "set k kind 1 jet\r", "set k kind 1 \t", "set k kind 1  ",
		"set k time 1 5", "set k time 1 5 4", "set k time 1 5  6", "set k time 1 05 6", "set k time 1 5 6 7", "set k time 1 0 10001", "set k time 1 5 6 ", "set k time 1 +5 6", "set k time 1 5\t6", "set k time 1 5 10000000",
		"set k level 1 0", "set k level 1 7", "set k level 1 01", "set k level 1 1 ", "set k level 1  1", "set k level 1 1\r", "set k level 1 x", "set k level 1 -1",
		"set k route 1 a", "set k route 1 a a", "set k route 1 a b b", "set k route 1 a  b", "set k route 1 a b ", "set k route 1  a b", "set k route 1 a z", "set k route 1 a jet", "set k route 1 a b a b a b a b a", "set k route 1 a b\r", "set k route 1 a\tb",
		"set k state 1 shut", "set k state 1 Open", "set k state 1 open ", "set k state 1 open closed", "set k state 1 open\r", "set k state 1 \xff", "set k state 1000000 set k state 1 open",
		// Whatever is said of it already, and whether that is later or not.
		"set d time 1 9 8", "set d time 9 9 8", "set m kind 1 plane", "set m level 9 9")
	wantPlanTaken(t, planHead(), "set k kind 1 jet", "set k time 1 0 10000", "set k time 1 10000 10000", "set k level 1 6", "set k route 1 a b a b a b a b", "set k route 1 c b", "set k state 1 closed", "set m route 1000000 a c", "set k level 1000000 1", "set a level 1 1", "set jet level 1 1")
}

// What a change speaks of must be said ahead of it.
func TestPlanParseChangesAheadOfTheirBase(t *testing.T) {
	lines := []string{"kind jet 1 2", "point a 0 0", "point b 3 1"}
	base := "kind jet 1 2\npoint a 0 0\npoint b 3 1\n"
	for _, change := range []string{"set k kind 1 jet", "set k route 1 a b"} {
		wantPlanTaken(t, base, change)
		for at := range 4 {
			text := textOf(slices.Insert(slices.Clone(lines), at, change))
			if at == 3 || at > 0 && change == "set k kind 1 jet" {
				want, _ := planFaultByTable(base + change)
				wantPlanBook(t, text, want)
				continue
			}
			wantPlanFault(t, text, at+1, 7)
		}
	}
	wantPlanFault(t, "set k kind 1 jet\nset k route 1 a b\n"+base, 1, 7)
	wantPlanFault(t, "point jet 0 0\nset k kind 1 jet\nkind jet 1 1\n", 2, 7)
	wantPlanFault(t, "kind a 1 1\nkind b 1 1\nset k route 1 a b\npoint a 0 0\npoint b 1 1\n", 3, 7)
	wantPlanFault(t, "point a 0 0\nset k route 1 a b a\npoint b 0 1\n", 2, 7)
	for _, change := range []string{"set k time 1 5 6", "set k level 1 3", "set k state 1 open"} {
		for at := range 4 {
			want, _ := planFaultByTable(base + change)
			wantPlanBook(t, textOf(slices.Insert(slices.Clone(lines), at, change)), want)
		}
	}
}

// A change that is not later than what is said is no fault, and changes nothing.
func TestPlanParseOfWhatIsLater(t *testing.T) {
	head := planHead()
	for _, line := range []string{"set d time 4 1 1", "set d time 5 5 6", "set d time 5 10 10", "set d time 1 0 0", "set d route 1 c b", "set d route 2 a b", "set m level 2 6", "set m level 3 3", "set m level 3 4", "set m state 1 closed", "set m kind 3 glider", "set m kind 1 jet"} {
		wantPlanBook(t, head+line, smallBook())
	}
	for _, form := range []string{"d time 6 1 1", "d time 5 5 60", "d route 3 a b", "d route 2 b a", "m level 4 1", "m level 3 5", "m state 2 closed", "m kind 4 glider", "d level 1 1", "a state 1 closed"} {
		wantPlanBook(t, head+"set "+form, bookOf(smallBase(), append(changesOf(smallBook()), said(form)...)))
	}
	wantPlanBook(t, "set k level 10 1\nset k level 9 6\nset k level 2 5\n", bookOf(impl.PlanBase{}, said("k level 10 1")))
}

// Of several faults of a line the first of the table is told, and of several lines the first.
func TestPlanParseTellsTheFirstFault(t *testing.T) {
	wantPlanFault(t, "kind jet 0 0\npoint a 99 99\nx\n", 1, 3)
	wantPlanFault(t, "kind jet 1 1\npoint a 99 99\nx\n", 2, 3)
	wantPlanFault(t, "x\nkind jet 0 0\n", 1, 2)
	wantPlanFault(t, "set k kind 1 jet\nx\n", 1, 7)
	wantPlanFault(t, "point a 0 0\npoint a 0 0\npoint b 0 0\n", 2, 4)
	wantPlanFault(t, "point a 0 0\npoint b 0 0\npoint a 0 0\n", 2, 5)
	full := textOf(planLines(fullBook()))
	wantPlanFault(t, full+"set z state 1 open\nset z state 1 shut\n", 83, 6)
	wantPlanFault(t, full+"set z state 1 shut\nset z state 1 open\n", 83, 7)
	wantPlanFault(t, full+"point point-00 0 15\n", 83, 4)
	wantPlanFault(t, full+"point point-00 1 15\n", 83, 4)
	wantPlanFault(t, full+"point z 0 15\n", 83, 5)
	wantPlanFault(t, full+"kind kind--00 1 1\n", 83, 4)
}

func TestPlanParseLongTexts(t *testing.T) {
	for size := 9900; size <= 10000; size++ {
		wantPlanBook(t, longText(t, size), fullBook())
		wantPlanBook(t, strings.TrimSuffix(longText(t, size+1), "\n"), fullBook())
	}
	for size := 10001; size <= 10100; size++ {
		wantPlanFault(t, longText(t, size), 0, 1)
	}
	head := planHead()
	at := strings.Count(head, "\n") + 1
	wantPlanFault(t, head+strings.Repeat("x", 10000-len(head)), at, 2)
	wantPlanFault(t, head+strings.Repeat("x", 10001-len(head)), 0, 1)
	wantPlanFault(t, head+"set k state 1 "+strings.Repeat("x", 10000-14-len(head)), at, 7)
	wantPlanFault(t, head+"set k state 1 "+strings.Repeat("x", 10000-13-len(head)), 0, 1)
	wantPlanFault(t, head+"kind "+strings.Repeat(" ", 10000-5-len(head)), at, 3)
	wantPlanFault(t, head+"kind "+strings.Repeat(" ", 10000-4-len(head)), 0, 1)
	wantPlanFault(t, strings.Repeat("x", 10000), 1, 2)
	wantPlanFault(t, strings.Repeat("x", 10001), 0, 1)
	wantPlanFault(t, strings.Repeat("\xff", 1000000), 0, 1)
	wantPlanFault(t, strings.Repeat("\n", 1000000), 0, 1)
	for _, wrong := range []string{"x\n", "\n", "kind jet 0 0\n", "point a 0 0\npoint a 0 0\n", "set k kind 1 jet\n"} {
		wantPlanFault(t, wrong+longText(t, 10001-len(wrong)), 0, 1)
	}
}

func TestPlanParseManyLines(t *testing.T) {
	head := planHead()
	lines := strings.Count(head, "\n")
	again := "set m level 1 1\n"
	wantPlanBook(t, head+strings.Repeat(again, 199-lines), smallBook())
	wantPlanBook(t, head+strings.Repeat(again, 200-lines), smallBook())
	wantPlanBook(t, head+strings.Repeat(again, 199-lines)+"set m level 1 1", smallBook())
	wantPlanFault(t, head+strings.Repeat(again, 201-lines), 0, 1)
	wantPlanFault(t, head+strings.Repeat(again, 200-lines)+"set m level 1 1", 0, 1)
	wantPlanFault(t, head+strings.Repeat(again, 200-lines)+" ", 0, 1)
	wantPlanFault(t, head+strings.Repeat(again, 200-lines)+"\n", 0, 1)
	wantPlanFault(t, head+strings.Repeat(again, 199-lines)+"x", 200, 2)
	wantPlanFault(t, head+strings.Repeat(again, 199-lines)+"\n", 200, 2)
	wantPlanFault(t, "x\n"+head+strings.Repeat(again, 199-lines), 1, 2)
	wantPlanFault(t, "x\n"+head+strings.Repeat(again, 200-lines), 0, 1)
	wantPlanFault(t, strings.Repeat("\n", 200), 1, 2)
	wantPlanFault(t, strings.Repeat("\n", 201), 0, 1)
	// Too many bytes and too many lines, with faults of other kinds.
	wantPlanFault(t, "x\n"+strings.Repeat(head, 200), 0, 1)
	wantPlanFault(t, strings.Repeat(again, 1000), 0, 1)
}

// Promise 15: PlanParse of PlanPrint is the book, for every one that is ok.
func TestPlanParseOfPlanPrint(t *testing.T) {
	r := rand.New(rand.NewPCG(15, 1))
	books := []impl.PlanBook{smallBook(), fullBook(), {}, {Base: smallBase()}, {Base: fullBase()}, flightsBook(flightNames(0, 12)...), bookOf(impl.PlanBase{}, said("k state 1 open"))}
	for range 3000 {
		books = append(books, drawBook(r))
	}
	count := map[string]int{}
	for _, b := range books {
		text := impl.PlanPrint(b)
		wantPlanBook(t, text, b)
		if again, _ := impl.PlanParse(text); impl.PlanPrint(again) != text {
			t.Fatalf("not printed again as %q", text)
		}
		count[fmt.Sprint(len(b.Base.Kinds), " kinds")]++
		count[fmt.Sprint(len(b.Base.Points), " points")]++
		count[fmt.Sprint(len(b.Entries), " flights")]++
		for _, c := range changesOf(b) {
			count[fmt.Sprint("what ", c.What)]++
		}
	}
	for _, what := range []string{"0 kinds", "6 kinds", "0 points", "16 points", "0 flights", "12 flights", "what 1", "what 2", "what 3", "what 4", "what 5"} {
		if count[what] < 100 {
			t.Errorf("%s came %d times", what, count[what])
		}
	}
}

// The order of lines is free, but that a change stands behind what it speaks of.
func TestPlanParseInAnyOrder(t *testing.T) {
	r := rand.New(rand.NewPCG(15, 2))
	for range 1000 {
		base := drawBase(r)
		list := drawSaids(r, base, drawNames(r, 12), 80)
		want := bookOf(base, list)
		lines := append(planLines(impl.PlanBook{Base: base}), changeLines(list)...)
		for range 4 {
			wantPlanBook(t, textOf(freeLines(r, lines)), want)
		}
	}
}

// Texts of which lines are bent, left out, doubled and moved, each held against the table.
func TestPlanTextsAtRandom(t *testing.T) {
	r := rand.New(rand.NewPCG(15, 3))
	seen := map[int]int{}
	for range 20000 {
		seen[checkPlanText(t, drawPlanText(r)).Code]++
	}
	for _, code := range []int{0, 2, 3, 4, 5, 6, 7} {
		if seen[code] < 200 {
			t.Errorf("code %d came %d times", code, seen[code])
		}
	}
}

// Promise 15: the lines ahead of one that has the first fault have none; nor does the fault hang on what stands behind it.
func TestPlanFaultsHangOnWhatIsAhead(t *testing.T) {
	r := rand.New(rand.NewPCG(15, 4))
	seen := map[int]int{}
	for range 8000 {
		text := drawPlanText(r)
		_, f := impl.PlanParse(text)
		if f.Code < 2 {
			continue
		}
		seen[f.Code]++
		lines := strings.Split(text, "\n")
		ahead, with := textOf(lines[:f.Line-1]), textOf(lines[:f.Line])
		if b, g := impl.PlanParse(ahead); g != (impl.PlanFault{}) || !impl.PlanBookOk(b) {
			t.Fatalf("%+v ahead of %+v, of %q", g, f, text)
		}
		wantPlanFault(t, with, f.Line, f.Code)
		behind := strings.Split(drawPlanText(r), "\n")
		wantPlanFault(t, with+strings.Join(behind[:r.IntN(len(behind)+1)], "\n"), f.Line, f.Code)
	}
	for code := 2; code <= 7; code++ {
		if seen[code] < 80 {
			t.Errorf("code %d came %d times", code, seen[code])
		}
	}
}

func TestPlanParseOneByteAway(t *testing.T) {
	text := "kind jet 1 2\npoint a 0 0\npoint b 3 15\nset k route 10 a b\nset k time 1 5 6\n"
	seen := map[int]int{}
	for at := range len(text) + 1 {
		for c := range 256 {
			one := string([]byte{byte(c)})
			seen[checkPlanText(t, text[:at]+one+text[at:]).Code]++
			if at < len(text) {
				seen[checkPlanText(t, text[:at]+one+text[at+1:]).Code]++
			}
		}
		if at < len(text) {
			checkPlanText(t, text[:at]+text[at+1:])
		}
		checkPlanText(t, text[:at])
		checkPlanText(t, text[at:])
	}
	if seen[0] < 500 || seen[2] < 5000 || seen[3] < 5000 || seen[7] < 1000 {
		t.Errorf("too few of one kind: %v", seen)
	}
}

func TestPlanParseOfAnyBytes(t *testing.T) {
	r := rand.New(rand.NewPCG(15, 5))
	for range 5000 {
		checkPlanText(t, otherBytes(r, drawPlanText(r)))
	}
}

func TestPlanPrintByHand(t *testing.T) {
	want := `kind glider 3 9
kind jet 1 2
point a 0 0
point b 5 1
point c 1 5
set d time 5 5 6
set d route 2 a b
set m kind 3 jet
set m level 3 4
set m state 1 open
`
	if got := impl.PlanPrint(smallBook()); got != want {
		t.Errorf("%q", got)
	}
	for _, c := range []struct {
		book impl.PlanBook
		want string
	}{
		{impl.PlanBook{}, ""},
		{impl.PlanBook{Entries: []impl.PlanEntry{}, Base: impl.PlanBase{Kinds: []impl.PlanKind{}, Points: []impl.PlanPoint{}}}, ""},
		{impl.PlanBook{Base: smallBase()}, "kind glider 3 9\nkind jet 1 2\npoint a 0 0\npoint b 5 1\npoint c 1 5\n"},
		{bookOf(impl.PlanBase{}, said("k state 1000000 closed", "k time 7 0 10000")), "set k time 7 0 10000\nset k state 1000000 closed\n"},
		// Kinds and points, flights and things stand in the order of the book, whatever their numbers are.
		{bookOf(smallBase(), said("b state 1 open", "b kind 9 jet", "a- level 5 1", "a route 7 c b a c", "0 time 1 10 10")), impl.PlanPrint(impl.PlanBook{Base: smallBase()}) + "set 0 time 1 10 10\nset a route 7 c b a c\nset a- level 5 1\nset b kind 9 jet\nset b state 1 open\n"},
	} {
		if got := impl.PlanPrint(c.book); got != c.want {
			t.Errorf("%q, not %q", got, c.want)
		}
	}
}

func TestPlanPrintLines(t *testing.T) {
	r := rand.New(rand.NewPCG(15, 6))
	books := []impl.PlanBook{smallBook(), fullBook()}
	for range 1500 {
		books = append(books, drawBook(r))
	}
	for _, b := range books {
		if got, want := impl.PlanPrint(b), textOf(planLines(b)); got != want {
			t.Fatalf("%q, not %q", got, want)
		}
	}
}

func TestPlanPrintOfBooksThatAreNotOk(t *testing.T) {
	for what, b := range brokenBooks() {
		if got := impl.PlanPrint(b); got != "" {
			t.Errorf("%s: %q", what, got)
		}
	}
	r := rand.New(rand.NewPCG(15, 7))
	count := map[bool]int{}
	for range 4000 {
		b := drawBook(r)
		for range 1 + r.IntN(2) {
			bendBook(r, &b)
		}
		want := ""
		if okByRules(b) {
			want = textOf(planLines(b))
		}
		count[want == ""]++
		if got := impl.PlanPrint(b); got != want {
			t.Fatalf("%q, not %q, of %+v", got, want, b)
		}
	}
	if count[true] < 500 || count[false] < 500 {
		t.Errorf("too few of one kind: %v", count)
	}
}

func TestPlanTextsWriteNothing(t *testing.T) {
	for _, book := range someBooks() {
		b := fenceBook(book)
		before := wholeBook(b)
		first := impl.PlanPrint(b)
		if !reflect.DeepEqual(wholeBook(b), before) {
			t.Errorf("written into: %+v", book)
		}
		if impl.PlanPrint(b) != first {
			t.Errorf("written in another way the second time: %+v", book)
		}
	}
}

func TestPlanParseGivesNewMemory(t *testing.T) {
	r := rand.New(rand.NewPCG(15, 8))
	texts := []string{"", planHead(), textOf(planLines(fullBook())), "x\n", planHead() + "x\n", "kind a 1 1\n", "point a 1 1\n"}
	for range 300 {
		texts = append(texts, drawPlanText(r))
	}
	for _, text := range texts {
		first, _ := impl.PlanParse(text)
		second, _ := impl.PlanParse(text)
		wantNewMemory(t, fmt.Sprintf("PlanParse of %.100q", text), []any{first, second})
	}
}
