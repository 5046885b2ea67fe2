package tests

import (
	"fmt"
	"math"
	"math/rand/v2"
	"reflect"
	"slices"
	"strings"
	"testing"

	"loop.example/lapwing/impl"
)

// rowText is a row as it is read in a test: level, Y, and its runs.
func rowText(row impl.SkyRow) string {
	text := fmt.Sprint(row.Level, row.Y)
	for _, run := range row.Runs {
		text += fmt.Sprintf(" %d-%d:%s", run.From, run.To, run.Sector)
	}
	return text
}

func hopText(hop impl.SkyHop) string {
	return fmt.Sprintf("%s %s %d %s", hop.From, hop.To, hop.Far, hop.Next)
}

// wantIndex asks for the rows and the hops of a sky, a text each.
func wantIndex(t *testing.T, s impl.Sky, rows, hops []string) {
	t.Helper()
	x := impl.SkyIndexOf(s)
	var gotRows, gotHops []string
	for _, row := range x.Rows {
		gotRows = append(gotRows, rowText(row))
	}
	for _, hop := range x.Hops {
		gotHops = append(gotHops, hopText(hop))
	}
	if !slices.Equal(gotRows, rows) {
		t.Errorf("rows %q, not %q", gotRows, rows)
	}
	if !slices.Equal(gotHops, hops) {
		t.Errorf("hops %q, not %q", gotHops, hops)
	}
}

func TestIndexOfSmallSky(t *testing.T) {
	var rows []string
	for level := 1; level <= 3; level++ {
		for y := range 4 {
			rows = append(rows, fmt.Sprintf("%d %d 0-1:one 2-4:two", level, y))
		}
	}
	wantIndex(t, smallSky(), rows, []string{"a b 4 b", "a c 2 c", "b a 4 a", "b c 2 c", "c a 2 a", "c b 2 b"})
}

func TestIndexRuns(t *testing.T) {
	// Neighbouring blocks of one sector are one run, and a sector comes again behind another one.
	s := touchSky("sky 7 2 2\nsector a 0 0 1 0 1 2\nsector a 2 0 2 0 1 1\nsector a 4 0 6 0 1 1\nsector b 3 0 3 1 1 1\nsector c 0 1 0 1 1 1\nsector b 1 1 2 1 1 1\nsector c 4 1 6 1 1 1\nsector d 2 0 6 0 2 2\nsector d 0 1 6 1 2 2\n")
	wantIndex(t, s, []string{"1 0 0-2:a 3-3:b 4-6:a", "1 1 0-0:c 1-3:b 4-6:c", "2 0 0-1:a 2-6:d", "2 1 0-6:d"}, nil)
	wantIndex(t, coverSky(1, 1, 1), []string{"1 0 0-0:all"}, nil)
	wantIndex(t, coverSky(16, 1, 2), []string{"1 0 0-15:all", "2 0 0-15:all"}, nil)
	wantIndex(t, coverSky(1, 3, 1), []string{"1 0 0-0:all", "1 1 0-0:all", "1 2 0-0:all"}, nil)
	// A run for each cell, as many as sectors and blocks have room for.
	cells := touchSky("sky 4 1 1\nsector a 0 0 0 0 1 1\nsector b 1 0 1 0 1 1\nsector a 2 0 2 0 1 1\nsector b 3 0 3 0 1 1\n")
	wantIndex(t, cells, []string{"1 0 0-0:a 1-1:b 2-2:a 3-3:b"}, nil)
}

func TestIndexHops(t *testing.T) {
	// z is on no airway, and c and d are on one of their own.
	s := touchSky("sky 16 1 1\nsector all 0 0 15 0 1 1\npoint a 0 0\npoint b 5 0\npoint c 1 0\npoint d 3 0\npoint e 9 0\npoint z 15 0\nairway j e b a\nairway k d c\n")
	wantIndex(t, s, []string{"1 0 0-15:all"}, []string{"a b 5 b", "a e 9 b", "b a 5 a", "b e 4 e", "c d 2 d", "d c 2 c", "e a 9 b", "e b 4 b"})
	for _, name := range []string{"a", "b", "c", "d", "e", "z"} {
		if way := impl.SkyAlong(impl.SkyIndexOf(s), name, name); !slices.Equal(way, []string{name}) {
			t.Errorf("from %q to itself: %q", name, way)
		}
	}
}

func TestIndexOfSkiesThatAreNotValid(t *testing.T) {
	for what, s := range brokenSkies() {
		if x := impl.SkyIndexOf(s); len(x.Rows) != 0 || len(x.Hops) != 0 {
			t.Errorf("%s: %+v", what, x)
		}
	}
}

// rowsByPlaces is the rows of a sky, as texts, from the sector of each place.
func rowsByPlaces(s impl.Sky) []string {
	var rows []string
	for n := range s.Levels * s.Height {
		level, y := n/s.Height+1, n%s.Height
		row := impl.SkyRow{Level: level, Y: y}
		for x := range s.Width {
			name, _ := whereByPlaces(s, place(x, y, level))
			if x == 0 || row.Runs[len(row.Runs)-1].Sector != name {
				row.Runs = append(row.Runs, impl.SkyRun{From: x, Sector: name})
			}
			row.Runs[len(row.Runs)-1].To = x
		}
		rows = append(rows, rowText(row))
	}
	return rows
}

// hopsByRounds is the hops of a sky, as texts.
func hopsByRounds(s impl.Sky) []string {
	var hops []string
	for _, from := range s.Points {
		best := bestByRounds(s, from.Name)
		for _, to := range s.Points {
			if way := best[to.Name]; len(way) > 1 {
				hops = append(hops, hopText(impl.SkyHop{From: from.Name, To: to.Name, Far: lengthOf(s, way), Next: way[1]}))
			}
		}
	}
	return hops
}

// indexSkies are skies of all kinds and sizes.
func indexSkies(seed uint64, count int) []impl.Sky {
	r := rand.New(rand.NewPCG(11, seed))
	skies := []impl.Sky{smallSky(), fullSky(), chainSky(), trackSky(), coverSky(1, 1, 1), coverSky(16, 16, 6)}
	for range count {
		skies = append(skies, drawSky(r), drawWaySky(r, r.IntN(12)+2))
	}
	return skies
}

func TestIndexAtRandom(t *testing.T) {
	for _, s := range indexSkies(4, 30) {
		wantIndex(t, s, rowsByPlaces(s), hopsByRounds(s))
		if t.Failed() {
			t.Fatalf("of %+v", s)
		}
	}
}

// TestIndexPromise is promise 8: each place, and those just outside; any two points.
func TestIndexPromise(t *testing.T) {
	for _, s := range indexSkies(5, 12) {
		x := impl.SkyIndexOf(s)
		for i := range (s.Width + 2) * (s.Height + 2) * (s.Levels + 2) {
			p := place(i%(s.Width+2)-1, i/(s.Width+2)%(s.Height+2)-1, i/(s.Width+2)/(s.Height+2))
			got, ok := impl.SkyFind(x, p)
			if want, wantOk := whereByPlaces(s, p); got != want || ok != wantOk {
				t.Fatalf("%+v is in %q (%v) by the index, not in %q (%v)", p, got, ok, want, wantOk)
			}
		}
		for _, far := range farNumbers {
			for _, p := range []impl.SkyPlace{place(far, 0, 1), place(0, far, 1), place(0, 0, far), place(far, far, far)} {
				wantFind(t, x, p, "")
			}
		}
		for _, from := range s.Points {
			for _, to := range s.Points {
				if got, want := impl.SkyAlong(x, from.Name, to.Name), impl.SkyWay(s, from.Name, to.Name); !slices.Equal(got, want) {
					t.Fatalf("from %q to %q: %q by the index, not %q", from.Name, to.Name, got, want)
				}
			}
		}
	}
}

func TestFindTellsWhatWhereTells(t *testing.T) {
	for _, s := range indexSkies(6, 3) {
		x := impl.SkyIndexOf(s)
		for i := range s.Width * s.Height * s.Levels {
			p := place(i%s.Width, i/s.Width%s.Height, i/s.Width/s.Height+1)
			got, ok := impl.SkyFind(x, p)
			if want, wantOk := impl.SkyWhere(s, p); got != want || ok != wantOk {
				t.Fatalf("%+v: %q (%v), not %q (%v)", p, got, ok, want, wantOk)
			}
		}
	}
}

func TestIndexIsAlwaysTheSame(t *testing.T) {
	for _, s := range []impl.Sky{fullSky(), smallSky()} {
		want := fmt.Sprint(impl.SkyIndexOf(s))
		for range 200 {
			if got := fmt.Sprint(impl.SkyIndexOf(s)); got != want {
				t.Fatalf("%s, and then %s", want, got)
			}
		}
	}
}

// wantFind asks for the sector of a place, the empty text being that there is none.
func wantFind(t *testing.T, x impl.SkyIndex, p impl.SkyPlace, want string) {
	t.Helper()
	if got, ok := impl.SkyFind(x, p); got != want || ok != (want != "") {
		t.Errorf("%+v is in %q (%v), not in %q", p, got, ok, want)
	}
}

// row is a row of an index that no sky may have.
func row(level, y int, runs ...impl.SkyRun) impl.SkyRow {
	return impl.SkyRow{Level: level, Y: y, Runs: runs}
}

func run(from, to int, sector string) impl.SkyRun {
	return impl.SkyRun{From: from, To: to, Sector: sector}
}

func rowsIndex(rows ...impl.SkyRow) impl.SkyIndex {
	return impl.SkyIndex{Rows: rows}
}

func TestFindInNothing(t *testing.T) {
	wantFind(t, impl.SkyIndex{}, place(0, 0, 0), "")
	wantFind(t, rowsIndex(row(0, 0)), place(0, 0, 0), "")
	wantFind(t, rowsIndex(row(0, 0, impl.SkyRun{Sector: "p"})), place(0, 0, 0), "p")
	// An index of hops alone has no place.
	wantFind(t, impl.SkyIndex{Hops: []impl.SkyHop{{From: "a", To: "b", Next: "b"}}}, place(0, 0, 1), "")
}

func TestFindWithRowsTwice(t *testing.T) {
	twice := rowsIndex(row(1, 0, run(0, 2, "p")), row(1, 0, run(0, 4, "q")), row(1, 0, run(0, 9, "r")))
	wantFind(t, twice, place(2, 0, 1), "p")
	wantFind(t, twice, place(3, 0, 1), "q")
	wantFind(t, twice, place(5, 0, 1), "r")
	wantFind(t, twice, place(10, 0, 1), "")
	wantFind(t, twice, place(-1, 0, 1), "")
	without := rowsIndex(row(1, 0), row(1, 0, run(5, 6, "x")), row(2, 0, run(0, 9, "l")), row(1, 1, run(0, 9, "y")), row(1, 0, run(1, 1, "z"), run(0, 3, "q")))
	wantFind(t, without, place(0, 0, 1), "q")
	wantFind(t, without, place(1, 0, 1), "z")
	wantFind(t, without, place(5, 0, 1), "x")
	wantFind(t, without, place(0, 0, 2), "l")
	wantFind(t, without, place(0, 1, 1), "y")
	wantFind(t, without, place(0, 1, 2), "")
	wantFind(t, without, place(0, 2, 1), "")
}

func TestFindWithRunsAsTheyAre(t *testing.T) {
	overlap := rowsIndex(row(3, 2, run(4, 6, "p"), run(0, 5, "q"), run(5, 9, "r"), run(4, 4, "s")))
	for x, want := range []string{"q", "q", "q", "q", "p", "p", "p", "r", "r", "r", ""} {
		wantFind(t, overlap, place(x, 2, 3), want)
	}
	// A run that ends ahead of where it begins has no X.
	wantFind(t, rowsIndex(row(1, 0, run(3, 1, "p"), run(2, 2, "q"))), place(2, 0, 1), "q")
	wantFind(t, rowsIndex(row(1, 0, run(3, 1, "p"))), place(3, 0, 1), "")
	wantFind(t, rowsIndex(row(1, 0, run(3, 1, "p"))), place(1, 0, 1), "")
	// A sector may be no name, or none at all: it is told, and true.
	if got, ok := impl.SkyFind(rowsIndex(row(1, 0, run(0, 0, ""), run(0, 0, "q"))), place(0, 0, 1)); got != "" || !ok {
		t.Errorf("%q, %v", got, ok)
	}
	wantFind(t, rowsIndex(row(1, 0, run(0, 0, "\xff no name at all"))), place(0, 0, 1), "\xff no name at all")
}

func TestFindAtTheEndsOfInt(t *testing.T) {
	least, most := math.MinInt, math.MaxInt
	x := rowsIndex(row(least, most, run(least, least, "p"), run(most, most, "q"), run(least+1, most-1, "r")), row(most, least, run(least, most, "s")), row(0, -1, run(most, least, "t")))
	wantFind(t, x, place(least, most, least), "p")
	wantFind(t, x, place(most, most, least), "q")
	for _, n := range []int{least + 1, -1, 0, 1, most - 1} {
		wantFind(t, x, place(n, most, least), "r")
		wantFind(t, x, place(n, -1, 0), "")
	}
	for _, n := range append([]int{0}, farNumbers...) {
		wantFind(t, x, place(n, least, most), "s")
		wantFind(t, x, place(n, most, most), "")
		wantFind(t, x, place(n, least, least), "")
		wantFind(t, x, place(n, -1, 0), "")
	}
}

// hops are those of an index, each written as from, to and next.
func hops(said ...string) impl.SkyIndex {
	var x impl.SkyIndex
	for i, hop := range said {
		words := strings.Split(hop, " ")
		x.Hops = append(x.Hops, impl.SkyHop{From: words[0], To: words[1], Far: farNumbers[i%len(farNumbers)], Next: words[2]})
	}
	return x
}

func wantAlong(t *testing.T, x impl.SkyIndex, from, to string, want ...string) {
	t.Helper()
	if got := impl.SkyAlong(x, from, to); !slices.Equal(got, want) {
		t.Errorf("from %q to %q: %q, not %q", from, to, got, want)
	}
}

func TestAlongToItself(t *testing.T) {
	for _, name := range []string{"", "a", "no name at all", "\xff", strings.Repeat("a", 100)} {
		wantAlong(t, impl.SkyIndex{}, name, name, name)
		wantAlong(t, hops("a a b", "b a a"), name, name, name)
	}
}

func TestAlongHopsAsTheyAre(t *testing.T) {
	wantAlong(t, impl.SkyIndex{}, "a", "b")
	wantAlong(t, impl.SkyIndex{}, "a", "")
	wantAlong(t, hops("a b b"), "a", "b", "a", "b")
	wantAlong(t, hops("a b b"), "b", "a")
	wantAlong(t, hops("a b b"), "a", "c")
	// A hop counts for its own end alone.
	wantAlong(t, hops("a d b", "b c d", "b d c", "c d d"), "a", "d", "a", "b", "c", "d")
	wantAlong(t, hops("a d b", "b c d", "c d d"), "a", "d")
	// One hop twice: the first.
	wantAlong(t, hops("a d b", "a d c", "b d d", "c d d"), "a", "d", "a", "b", "d")
	wantAlong(t, hops("a d c", "a d b", "b d d", "c d d"), "a", "d", "a", "c", "d")
	wantAlong(t, hops("a d b", "a d d"), "a", "d")
	// It ends where `to` is, though there is a hop on from it.
	wantAlong(t, hops("a d d", "d d a"), "a", "d", "a", "d")
	// A circle, of one, two and three, and one that is come to from outside.
	wantAlong(t, hops("a b a"), "a", "b")
	wantAlong(t, hops("a d b", "b d a"), "a", "d")
	wantAlong(t, hops("a d b", "b d c", "c d a"), "b", "d")
	wantAlong(t, hops("s d a", "a d b", "b d a"), "s", "d")
	// Names may be anything.
	odd := impl.SkyIndex{Hops: []impl.SkyHop{{From: "", To: "\xff", Next: "no name at all"}, {From: "no name at all", To: "\xff", Next: "\xff"}, {From: "x", To: "", Next: ""}}}
	wantAlong(t, odd, "", "\xff", "", "no name at all", "\xff")
	wantAlong(t, odd, "x", "", "x", "")
}

// longChain is an index in which a way from the first to the last of so many names has all of them.
func longChain(count int) (impl.SkyIndex, []string) {
	var names, said []string
	for i := range count {
		names = append(names, fmt.Sprintf("n%d", i))
	}
	for i := range count - 1 {
		said = append(said, names[i]+" "+names[count-1]+" "+names[i+1])
	}
	return hops(said...), names
}

func TestAlongAtItsLimit(t *testing.T) {
	for _, count := range []int{2, 3, 15, 16} {
		x, names := longChain(count)
		wantAlong(t, x, names[0], names[count-1], names...)
	}
	for _, count := range []int{17, 18, 32, 100} {
		x, names := longChain(count)
		wantAlong(t, x, names[0], names[count-1])
		// From where there are just as many left, and one more.
		wantAlong(t, x, names[count-16], names[count-1], names[count-16:]...)
		wantAlong(t, x, names[count-17], names[count-1])
	}
	// No hop goes on from the last of sixteen names.
	x, names := longChain(17)
	x.Hops = x.Hops[:15]
	wantAlong(t, x, names[0], names[16])
}

// fenceIndex is a copy of an index with something behind the end of each of its lists.
func fenceIndex(x impl.SkyIndex) impl.SkyIndex {
	x.Rows = append(slices.Clone(x.Rows), impl.SkyRow{Level: 77})[:len(x.Rows)]
	for i, r := range x.Rows {
		x.Rows[i].Runs = append(slices.Clone(r.Runs), impl.SkyRun{From: 77})[:len(r.Runs)]
	}
	x.Hops = append(slices.Clone(x.Hops), impl.SkyHop{Far: 77})[:len(x.Hops)]
	return x
}

// wholeIndex is a copy of an index and of what stands behind the ends of its lists.
func wholeIndex(x impl.SkyIndex) impl.SkyIndex {
	x.Rows = slices.Clone(x.Rows[:cap(x.Rows)])
	for i, r := range x.Rows {
		x.Rows[i].Runs = slices.Clone(r.Runs[:cap(r.Runs)])
	}
	x.Hops = slices.Clone(x.Hops[:cap(x.Hops)])
	return x
}

func TestIndexWritesNothing(t *testing.T) {
	for _, s := range []impl.Sky{smallSky(), fullSky(), chainSky()} {
		s = fenceSky(s)
		before := wholeSky(s)
		x := fenceIndex(impl.SkyIndexOf(s))
		if !reflect.DeepEqual(wholeSky(s), before) {
			t.Error("the sky is written into")
		}
		whole := wholeIndex(x)
		for _, from := range s.Points {
			for _, to := range []string{"a", "b", "point-00", "point-15", "z"} {
				impl.SkyAlong(x, from.Name, to)
				impl.SkyFind(x, place(from.X, from.Y, 1))
				impl.SkyFind(x, place(from.X, from.Y, 9))
			}
		}
		if !reflect.DeepEqual(wholeIndex(x), whole) {
			t.Error("the index is written into")
		}
	}
}

func TestIndexIsNewMemory(t *testing.T) {
	for _, make := range []func() impl.Sky{smallSky, fullSky} {
		s := make()
		first, second := impl.SkyIndexOf(s), impl.SkyIndexOf(s)
		want := fmt.Sprint(second)
		// Each list is written over, spare room included, and all behind it stay as they were.
		for i := range first.Rows {
			fillList(first.Rows[i].Runs, run(99, 99, "written"))
			if i+1 < len(first.Rows) && rowText(first.Rows[i+1]) != rowText(second.Rows[i+1]) {
				t.Errorf("row %d shares memory with the one ahead of it", i+1)
			}
			if rowText(first.Rows[0]) == rowText(second.Rows[0]) {
				t.Error("the first row is no longer what was written")
			}
		}
		if fmt.Sprint(first.Hops) != fmt.Sprint(second.Hops) {
			t.Error("runs and hops share memory")
		}
		fillList(first.Rows, row(99, 99))
		fillList(first.Hops, impl.SkyHop{From: "written"})
		if fmt.Sprint(second) != want || fmt.Sprint(impl.SkyIndexOf(s)) != want {
			t.Error("two indexes share memory")
		}
		if !sameSky(s, make()) {
			t.Error("an index shares memory with the sky")
		}
	}
}

func TestAlongIsNewMemory(t *testing.T) {
	x, names := longChain(16)
	before := fmt.Sprint(x)
	for _, from := range names {
		first, second := impl.SkyAlong(x, from, names[15]), impl.SkyAlong(x, from, names[15])
		want := slices.Clone(second)
		fillList(first, "written")
		if !slices.Equal(second, want) || fmt.Sprint(x) != before {
			t.Errorf("from %q: an answer shares memory", from)
		}
	}
}
