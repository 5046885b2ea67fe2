package tests

import (
	"fmt"
	"math/rand/v2"
	"reflect"
	"slices"
	"strings"
	"testing"

	"loop.example/lapwing/impl"
)

// pathBase is a base whose points a, c and b lie on one line; from far on there and back is too far.
func pathBase() impl.PlanBase {
	return impl.PlanBase{
		Kinds: []impl.PlanKind{{Name: "even", Quick: 4, Slow: 4}, {Name: "glider", Quick: 3, Slow: 9}, {Name: "jet", Quick: 1, Slow: 2}, {Name: "slow", Quick: 50, Slow: 50}},
		Points: []impl.PlanPoint{
			{Name: "a"}, {Name: "b", X: 4}, {Name: "c", X: 2}, {Name: "corner", Y: 15}, {Name: "far", X: 15, Y: 15}, {Name: "next", X: 1}, {Name: "off", X: 9, Y: 3},
		},
	}
}

// pathForms are all that the flight k needs for a path.
var pathForms = []string{"k kind 1 glider", "k time 1 5 60", "k level 1 2", "k route 1 a b"}

// pathBook is a book on pathBase in which they are said, and more is said with greater numbers.
func pathBook(forms ...string) impl.PlanBook {
	return bookOf(pathBase(), said(append(slices.Clone(pathForms), forms...)...))
}

func samePath(a, b impl.PlanPath) bool {
	a.Steps, b.Steps = plainList(a.Steps), plainList(b.Steps)
	return reflect.DeepEqual(a, b)
}

// wantPath asks for the steps of the path of k, written one behind the other, and for its own window.
func wantPath(t *testing.T, b impl.PlanBook, want string, from, by int) {
	t.Helper()
	p, code := impl.PlanPathOf(b, "k")
	if code != 0 || fmt.Sprint(p.Steps) != want || p.From != from || p.By != by {
		t.Errorf("%+v, code %d, not %s from %d by %d", p, code, want, from, by)
	}
}

// wantNoPath asks for a code, and that nobody is over anything.
func wantNoPath(t *testing.T, what string, b impl.PlanBook, name string, want int) {
	t.Helper()
	if p, code := impl.PlanPathOf(b, name); code != want || !samePath(p, impl.PlanPath{}) {
		t.Errorf("%s: %+v, code %d, not code %d, of %q", what, p, code, want, name)
	}
	for _, point := range []string{"", "a", "b", "c", "far", "zz", "fence"} {
		wantNotOver(t, what, b, name, point)
	}
}

func wantOver(t *testing.T, b impl.PlanBook, point string, wantFrom, wantBy int) {
	t.Helper()
	if from, by, ok := impl.PlanOver(b, "k", point); !ok || from != wantFrom || by != wantBy {
		t.Errorf("over %q: from %d by %d, %v, not from %d by %d", point, from, by, ok, wantFrom, wantBy)
	}
}

func wantNotOver(t *testing.T, what string, b impl.PlanBook, name string, points ...string) {
	t.Helper()
	for _, point := range points {
		if from, by, ok := impl.PlanOver(b, name, point); ok || from != 0 || by != 0 {
			t.Errorf("%s: %q is over %q from %d by %d, %v", what, name, point, from, by, ok)
		}
	}
}

func TestPathByHand(t *testing.T) {
	wantPath(t, pathBook(), "[{0 0 0 0 5 60} {1 0 0 1 8 69} {2 0 1 2 11 78} {3 0 1 2 14 87} {4 0 0 1 17 96}]", 20, 105)
	wantPath(t, pathBook("k route 2 b a"), "[{4 0 0 0 5 60} {3 0 0 1 8 69} {2 0 1 2 11 78} {1 0 1 2 14 87} {0 0 0 1 17 96}]", 20, 105)
	wantPath(t, pathBook("k kind 2 jet", "k time 2 0 0"), "[{0 0 0 0 0 0} {1 0 0 1 1 2} {2 0 1 2 2 4} {3 0 1 2 3 6} {4 0 0 1 4 8}]", 5, 10)
	// Quick the same as Slow, and From the same as By.
	wantPath(t, pathBook("k kind 2 even", "k time 2 7 9"), "[{0 0 0 0 7 9} {1 0 0 1 11 13} {2 0 1 2 15 17} {3 0 1 2 19 21} {4 0 0 1 23 25}]", 27, 29)
	wantPath(t, pathBook("k kind 2 even", "k time 2 7 7"), "[{0 0 0 0 7 7} {1 0 0 1 11 11} {2 0 1 2 15 15} {3 0 1 2 19 19} {4 0 0 1 23 23}]", 27, 27)
	// A turn in the middle, over the same cells back.
	wantPath(t, pathBook("k kind 2 jet", "k time 2 5 6", "k route 2 a c a"), "[{0 0 0 0 5 6} {1 0 0 1 6 8} {2 0 1 2 7 10} {1 0 1 2 8 12} {0 0 0 1 9 14}]", 10, 16)
	// What is said of the state, and of others, changes nothing.
	wantPath(t, pathBook("k state 1 open", "a kind 1 jet", "z time 1 1 1"), "[{0 0 0 0 5 60} {1 0 0 1 8 69} {2 0 1 2 11 78} {3 0 1 2 14 87} {4 0 0 1 17 96}]", 20, 105)
}

// The first step is on the ground, the second goes up to the first level, the last comes down to the ground.
func TestPathLevels(t *testing.T) {
	for _, c := range []struct {
		route, level, want string
	}{
		{"a next", "1", "[0-0 0-0]"},
		{"a next", "6", "[0-0 0-0]"},
		{"a c", "1", "[0-0 0-1 0-1]"},
		{"a c", "6", "[0-0 0-1 0-1]"},
		{"next b", "1", "[0-0 0-1 1-1 0-1]"},
		{"next b", "2", "[0-0 0-1 1-1 0-1]"},
		{"a b", "1", "[0-0 0-1 1-1 1-1 0-1]"},
		{"a b", "2", "[0-0 0-1 1-2 1-2 0-1]"},
		{"a b", "3", "[0-0 0-1 1-2 1-2 0-1]"},
		{"a b next", "1", "[0-0 0-1 1-1 1-1 1-1 1-1 1-1 0-1]"},
		{"a b next", "2", "[0-0 0-1 1-2 2-2 2-2 2-2 1-2 0-1]"},
		{"a b next", "3", "[0-0 0-1 1-2 2-3 3-3 2-3 1-2 0-1]"},
		{"a b next", "4", "[0-0 0-1 1-2 2-3 3-3 2-3 1-2 0-1]"},
		{"a b a", "3", "[0-0 0-1 1-2 2-3 3-3 3-3 2-3 1-2 0-1]"},
		{"a b a", "4", "[0-0 0-1 1-2 2-3 3-4 3-4 2-3 1-2 0-1]"},
		{"a b a", "6", "[0-0 0-1 1-2 2-3 3-4 3-4 2-3 1-2 0-1]"},
		{"a far", "6", "[0-0 0-1 1-2 2-3 3-4 4-5 5-6 6-6 6-6 6-6 5-6 4-5 3-4 2-3 1-2 0-1]"},
	} {
		p, code := impl.PlanPathOf(pathBook("k route 2 "+c.route, "k level 2 "+c.level), "k")
		var levels []string
		for _, s := range p.Steps {
			levels = append(levels, fmt.Sprint(s.Low, "-", s.High))
		}
		if got := fmt.Sprint(levels); code != 0 || got != c.want {
			t.Errorf("%s on level %s: %s, code %d, not %s", c.route, c.level, got, code, c.want)
		}
	}
}

func TestPathOfTwoCells(t *testing.T) {
	wantPath(t, pathBook("k route 2 a next"), "[{0 0 0 0 5 60} {1 0 0 0 8 69}]", 11, 78)
	wantPath(t, pathBook("k route 2 next a", "k kind 2 jet", "k level 2 6"), "[{1 0 0 0 5 60} {0 0 0 0 6 62}]", 7, 64)
	wantPath(t, pathBook("k route 2 a next", "k kind 2 slow", "k time 2 0 9900"), "[{0 0 0 0 0 9900} {1 0 0 0 50 9950}]", 100, 10000)
	wantNoPath(t, "one tick too late", pathBook("k route 2 a next", "k kind 2 slow", "k time 2 0 9901"), "k", 4)
	wantOver(t, pathBook("k route 2 a next"), "a", 5, 68)
	wantOver(t, pathBook("k route 2 a next"), "next", 8, 77)
}

func TestPathOfBooksThatAreNotOk(t *testing.T) {
	for what, b := range brokenBooks() {
		for _, name := range []string{"", "d", "m", "k", "z"} {
			wantNoPath(t, what, b, name, 1)
		}
	}
	for what, change := range map[string]func(b *impl.PlanBook){
		"a point outside":          func(b *impl.PlanBook) { b.Base.Points[6].X = 16 },
		"two points in one cell":   func(b *impl.PlanBook) { b.Base.Points[6].X, b.Base.Points[6].Y = 15, 15 },
		"a kind that is too quick": func(b *impl.PlanBook) { b.Base.Kinds[0].Quick = 0 },
		"points in no order":       func(b *impl.PlanBook) { slices.Reverse(b.Base.Points) },
		"a flight of no name":      func(b *impl.PlanBook) { b.Entries[0].Name = "" },
		"a flight of nothing":      func(b *impl.PlanBook) { b.Entries = append(b.Entries, impl.PlanEntry{Name: "z"}) },
		"a flight twice":           func(b *impl.PlanBook) { b.Entries = append(b.Entries, b.Entries[0]) },
		"things in no order":       func(b *impl.PlanBook) { slices.Reverse(b.Entries[0].Fields) },
		"a thing that is none":     func(b *impl.PlanBook) { b.Entries[0].Fields[3].What = 6 },
		"a number too great":       func(b *impl.PlanBook) { b.Entries[0].Fields[3].Number = 1000001 },
		"a level that is none":     func(b *impl.PlanBook) { b.Entries[0].Fields[2].Value = "7" },
		"a kind that is none":      func(b *impl.PlanBook) { b.Entries[0].Fields[0].Value = "a" },
		"a time turned round":      func(b *impl.PlanBook) { b.Entries[0].Fields[1].Value = "60 5" },
		"a route that stays":       func(b *impl.PlanBook) { b.Entries[0].Fields[3].Value = "a b b" },
	} {
		b := pathBook()
		change(&b)
		wantNoPath(t, what, b, "k", 1)
		// The code of the book is looked for ahead of all others.
		wantNoPath(t, what, b, "none", 1)
		late := pathBook("k time 2 10000 10000", "k route 2 a far a far", "k state 2 closed")
		change(&late)
		wantNoPath(t, what, late, "k", 1)
	}
}

func TestPathOfNumbersFarAway(t *testing.T) {
	numbers := 0
	for _, n := range append([]int{-1, 1000001}, farNumbers...) {
		b := pathBook("k state 1 open")
		eachInt(reflect.ValueOf(&b).Elem(), "book", func(path string, v reflect.Value) {
			old := v.Int()
			v.SetInt(int64(n))
			wantNoPath(t, fmt.Sprint(path, " is ", n), b, "k", 1)
			v.SetInt(old)
			numbers++
		})
		if _, code := impl.PlanPathOf(b, "k"); code != 0 {
			t.Fatalf("code %d of a book as it was", code)
		}
	}
	if numbers < 300 {
		t.Errorf("%d numbers in all", numbers)
	}
}

func TestPathOfFlightsThatDoNotStand(t *testing.T) {
	for _, name := range []string{"", "j", "l", "kk", "k ", " k", "K", "k-", "jet", "a", "\xff", "abcdefghi", strings.Repeat("k", 5000)} {
		wantNoPath(t, "no such flight", pathBook(), name, 2)
	}
	wantNoPath(t, "nothing is said", impl.PlanBook{Base: pathBase()}, "k", 2)
	wantNoPath(t, "nothing at all", impl.PlanBook{}, "", 2)
	wantNoPath(t, "closed", pathBook("k state 1 closed"), "k", 2)
	wantNoPath(t, "closed, too long and too late", pathBook("k state 1 closed", "k time 2 10000 10000", "k route 2 a far a far"), "k", 2)
	forms := []string{"k kind 1 slow", "k time 1 10000 10000", "k level 1 2", "k route 1 a far a far"}
	for left := range 1<<len(forms) - 1 {
		for _, all := range [][]string{forms, pathForms} {
			var rest []string
			for i, form := range all {
				if left&(1<<i) != 0 {
					rest = append(rest, form)
				} else {
					rest = append(rest, "z"+strings.TrimPrefix(form, "k"))
				}
			}
			wantNoPath(t, fmt.Sprintf("no more than %q", rest), bookOf(pathBase(), said(rest...)), "k", 2)
		}
	}
}

func TestPathThatIsTooLong(t *testing.T) {
	for _, route := range []string{"a far a far", "far a far a", "a far corner a", "a far corner a far corner a far", "far b corner off"} {
		wantNoPath(t, route, pathBook("k route 2 "+route), "k", 3)
		wantNoPath(t, route+", too late", pathBook("k route 2 "+route, "k time 2 10000 10000"), "k", 3)
		wantNoPath(t, route+", too late by its length alone", pathBook("k route 2 "+route, "k kind 2 slow", "k time 2 0 9000"), "k", 3)
	}
	// 40 cells have a path, 41 do not.
	b := bookOf(impl.PlanBase{Kinds: pathBase().Kinds, Points: pointsBase(cell(0, 0), cell(15, 0), cell(15, 15), cell(6, 15), cell(5, 15)).Points},
		said("k kind 1 slow", "k time 1 0 8000", "k level 1 6", "k route 1 a b c d"))
	p, code := impl.PlanPathOf(b, "k")
	if code != 0 || len(p.Steps) != 40 || p.From != 2000 || p.By != 10000 || p.Steps[39] != (impl.PlanStep{X: 6, Y: 15, Low: 0, High: 1, From: 1950, By: 9950}) {
		t.Errorf("%+v, code %d", p, code)
	}
	b, _ = impl.PlanTake(b, said("k route 2 a b c e")[0])
	wantNoPath(t, "41 cells", b, "k", 3)
}

// The last of By decides; it may be PlanMaxTick.
func TestPathThatIsTooLate(t *testing.T) {
	for _, kind := range pathBase().Kinds {
		for route, cells := range map[string]int{"a next": 2, "a c": 3, "a b": 5, "far a": 16, "a b a b a b a b": 29, "a far a": 31} {
			last := 10000 - cells*kind.Slow
			for _, from := range []int{0, 1, last - 1, last} {
				b := pathBook("k kind 2 "+kind.Name, "k route 2 "+route, fmt.Sprintf("k time 2 %d %d", from, last))
				p, code := impl.PlanPathOf(b, "k")
				if code != 0 || p.By != 10000 || p.From != from+cells*kind.Quick || len(p.Steps) != cells {
					t.Errorf("%s by %s: %+v, code %d", route, kind.Name, p, code)
				}
				for _, by := range []int{last + 1, last + 2, 9999, 10000} {
					b, _ := impl.PlanTake(b, said(fmt.Sprintf("k time 3 %d %d", from, by))[0])
					wantNoPath(t, fmt.Sprint(route, " by ", kind.Name, " and ", by), b, "k", 4)
				}
			}
		}
	}
}

func TestOverByHand(t *testing.T) {
	b := pathBook() // a, next, c, another cell, b
	wantOver(t, b, "a", 5, 68)
	wantOver(t, b, "b", 17, 104)
	// Points in between, of which nothing was said.
	wantOver(t, b, "next", 8, 77)
	wantOver(t, b, "c", 11, 86)
	wantNotOver(t, "not on its way", b, "k", "corner", "far", "off")
	wantNotOver(t, "no point", b, "k", "", "zz", "A", "a ", " a", "aa", "k", "jet", "glider", "fence", "a b", "\xff", strings.Repeat("a", 5000))
	wantNotOver(t, "no such flight", b, "z", "a", "b", "c", "zz", "")
	// The same point as the first, as one in between and as the last.
	wantOver(t, pathBook("k route 2 c b"), "c", 5, 68)
	wantOver(t, pathBook("k route 2 a c b"), "c", 11, 86)
	wantOver(t, pathBook("k route 2 a c"), "c", 11, 86)
	wantNotOver(t, "behind its end", pathBook("k route 2 a c"), "k", "b")
	wantOver(t, pathBook("k kind 2 jet", "k time 2 0 0"), "a", 0, 1)
	wantOver(t, pathBook("k kind 2 jet", "k time 2 0 0"), "b", 4, 9)
	wantOver(t, pathBook("k kind 2 even", "k time 2 0 0"), "c", 8, 11)
}

// Of a point that is come to twice, or more often, the first step tells.
func TestOverTwice(t *testing.T) {
	there := "k route 2 a b a"
	wantOver(t, pathBook(there), "a", 5, 68)
	wantOver(t, pathBook(there), "next", 8, 77)
	wantOver(t, pathBook(there), "c", 11, 86)
	wantOver(t, pathBook(there), "b", 17, 104)
	again := "k route 2 b c b c b a b c"
	wantOver(t, pathBook(again), "b", 5, 68)
	wantOver(t, pathBook(again), "c", 11, 86)
	// Of a point that is of the route, but whose cell is come to ahead of it.
	wantOver(t, pathBook("k route 2 a b c"), "c", 11, 86)
	wantOver(t, pathBook("k route 2 far a b next"), "next", 5+16*3, 60+17*9-1)
}

func TestOverAtItsBounds(t *testing.T) {
	b := pathBook("k kind 2 slow", "k time 2 0 9750")
	wantOver(t, b, "a", 0, 9799)
	wantOver(t, b, "b", 200, 9999)
	b, _ = impl.PlanTake(b, said("k time 3 9750 9750")[0])
	wantOver(t, b, "b", 9950, 9999)
	b, _ = impl.PlanTake(b, said("k time 4 9751 9751")[0])
	wantNoPath(t, "too late", b, "k", 4)
}

// pathByTable says what chapter 18 says, in another way: tick by tick from the ends that each step has.
func pathByTable(b impl.PlanBook, name string) (impl.PlanPath, int) {
	if !okByRules(b) {
		return impl.PlanPath{}, 1
	}
	f, ok := flightByForms(b, name)
	if !ok {
		return impl.PlanPath{}, 2
	}
	cells := cellsByTries(b.Base, f.Route)
	n := len(cells)
	if n > 40 {
		return impl.PlanPath{}, 3
	}
	p := impl.PlanPath{From: f.From + n*f.Kind.Quick, By: f.By + n*f.Kind.Slow}
	if p.By > 10000 {
		return impl.PlanPath{}, 4
	}
	levels := levelsByClimbing(n, f.Level)
	for k, c := range cells {
		two := []int{levels[k], levels[k]}
		if k > 0 {
			two[0] = levels[k-1]
		}
		slices.Sort(two)
		p.Steps = append(p.Steps, impl.PlanStep{X: c.X, Y: c.Y, Low: two[0], High: two[1], From: f.From + k*f.Kind.Quick, By: f.By + k*f.Kind.Slow})
	}
	return p, 0
}

// overByTable says of a path what chapter 18 says of a point.
func overByTable(b impl.PlanBook, p impl.PlanPath, point string) (int, int, bool) {
	for _, one := range b.Base.Points {
		for k, s := range p.Steps {
			if one.Name == point && s.X == one.X && s.Y == one.Y {
				bys := []int{p.By}
				for _, later := range p.Steps[k+1:] {
					bys = append(bys, later.By)
				}
				return s.From, slices.Min(bys) - 1, true
			}
		}
	}
	return 0, 0, false
}

// drawPathTime is a time, most often one that ends well, at times at the end of ticks.
func drawPathTime(r *rand.Rand) string {
	by := r.IntN(9000)
	switch r.IntN(6) {
	case 0:
		by = r.IntN(20)
	case 1, 2:
		by = 8500 + r.IntN(1501)
	}
	from := by - min(by, r.IntN(40))
	if r.IntN(4) == 0 {
		from = by
	}
	return fmt.Sprint(from, " ", by)
}

// drawPathBook is a book that is ok, made at random, with flights of which most stand.
func drawPathBook(r *rand.Rand) impl.PlanBook {
	base := drawPathBase(r)
	var list []impl.PlanChange
	for _, name := range drawNames(r, 1+r.IntN(12)) {
		for what := 1; what <= 5; what++ {
			if r.IntN(12) == 0 || what == 5 && r.IntN(3) > 0 {
				continue
			}
			c := impl.PlanChange{Flight: name, What: what, Number: 1 + r.IntN(9), Value: drawFitting(r, base, what)}
			if what == 2 {
				c.Value = drawPathTime(r)
			}
			list = append(list, c)
		}
	}
	return bookOf(base, list)
}

// checkPaths holds the paths of all flights of a book, and of some that are none, against the table. It gives
// how many there are of each code.
func checkPaths(t *testing.T, b impl.PlanBook) [5]int {
	t.Helper()
	var codes [5]int
	names := []string{"", "zz", "fence"}
	for _, e := range b.Entries {
		names = append(names, e.Name, e.Name+"-")
	}
	points := []string{"", "zz", "fence"}
	for _, p := range b.Base.Points {
		points = append(points, p.Name, p.Name+"-")
	}
	for _, name := range names {
		want, wantCode := pathByTable(b, name)
		got, code := impl.PlanPathOf(b, name)
		if code != wantCode || !samePath(got, want) {
			t.Fatalf("%+v, code %d, not %+v, code %d, of %q and %+v", got, code, want, wantCode, name, b)
		}
		codes[code]++
		for _, point := range points {
			wantFrom, wantBy, wantOk := overByTable(b, want, point)
			if from, by, ok := impl.PlanOver(b, name, point); from != wantFrom || by != wantBy || ok != wantOk {
				t.Fatalf("from %d by %d, %v, not from %d by %d, %v, of %q over %q and %+v", from, by, ok, wantFrom, wantBy, wantOk, name, point, b)
			}
		}
	}
	return codes
}

func TestPathsAtRandom(t *testing.T) {
	r := rand.New(rand.NewPCG(18, 1))
	var all [5]int
	for range 150 {
		b := drawPathBook(r)
		for try := range 3 {
			for code, count := range checkPaths(t, b) {
				all[code] += count
			}
			if try < 2 {
				bendBook(r, &b)
			}
		}
	}
	if slices.Min(all[:]) < 80 {
		t.Errorf("too few of one code: %v", all)
	}
}

// Promise 16, its second half: each that stands has a path, or a code 3 or 4; and what does not stand has none.
func TestPathsOfFlightsThatStand(t *testing.T) {
	r := rand.New(rand.NewPCG(16, 3))
	var all [5]int
	for range 500 {
		b := drawPathBook(r)
		var standing []string
		for _, f := range impl.PlanAll(b) {
			standing = append(standing, f.Name)
		}
		for _, e := range b.Entries {
			p, code := impl.PlanPathOf(b, e.Name)
			all[code]++
			stands := slices.Contains(standing, e.Name)
			if fine := code == 0 || code == 3 || code == 4; fine != stands || !fine && code != 2 {
				t.Fatalf("code %d of %q, that stands: %v, in %+v", code, e.Name, stands, b)
			}
			if has := len(p.Steps) > 0; has != (code == 0) {
				t.Fatalf("%+v beside code %d, of %q in %+v", p, code, e.Name, b)
			}
		}
	}
	if all[0] < 500 || all[2] < 500 || all[3] < 200 || all[4] < 100 {
		t.Errorf("too few of one code: %v", all)
	}
}

// Promise 11, seen from its end: a book's changes in any order, some of them twice, come to the same paths.
func TestPathsOfOneBook(t *testing.T) {
	r := rand.New(rand.NewPCG(11, 3))
	paths, ahead := 0, 0
	for range 300 {
		b := drawPathBook(r)
		list := changesOf(b)
		// What is earlier comes to nothing, wherever it stands.
		for _, c := range changesOf(b) {
			if c.Number > 1 && r.IntN(2) == 0 {
				c.Number, c.Value = c.Number-1, drawFitting(r, b.Base, c.What)
				list = append(list, c)
				ahead++
			}
		}
		for range 3 {
			one := impl.PlanBook{Base: b.Base}
			for _, c := range mixed(r, list) {
				one, _ = impl.PlanTake(one, c)
			}
			checkBook(t, "one by one", one, b)
			all, _ := impl.PlanTakeAll(impl.PlanBook{Base: b.Base}, mixed(r, list))
			for _, e := range b.Entries {
				want, wantCode := impl.PlanPathOf(b, e.Name)
				first, firstCode := impl.PlanPathOf(one, e.Name)
				second, secondCode := impl.PlanPathOf(all, e.Name)
				if firstCode != wantCode || secondCode != wantCode || !samePath(first, want) || !samePath(second, want) {
					t.Fatalf("%q: %+v, %+v, not %+v, behind %+v", e.Name, first, second, want, list)
				}
				paths += len(want.Steps)
			}
		}
	}
	if paths < 5000 || ahead < 1000 {
		t.Errorf("%d steps, and %d changes that came to nothing", paths, ahead)
	}
}

// checkShape holds the steps of a path against each other: promise 17, its first sentence.
func checkShape(t *testing.T, f impl.PlanFlight, p impl.PlanPath) {
	t.Helper()
	last := len(p.Steps) - 1
	if last < 1 || last > 39 || p.Steps[0].Low != 0 || p.Steps[0].High != 0 || p.Steps[last].Low != 0 {
		t.Fatalf("it does not begin or end on the ground: %+v", p)
	}
	for k, s := range p.Steps {
		if s.Low < 0 || s.Low > s.High || s.High > f.Level || s.From > s.By {
			t.Fatalf("a step that is none: %+v in %+v", s, p)
		}
		if k == 0 {
			continue
		}
		ahead := p.Steps[k-1]
		if stepsOf(cell(ahead.X, ahead.Y), cell(s.X, s.Y)) != 1 || max(ahead.Low, s.Low) > min(ahead.High, s.High) {
			t.Fatalf("%+v is not next to %+v, or on no level with it", s, ahead)
		}
	}
}

// fly is the ticks at which a flight enters each step of a path, and that at which it leaves the last one, if it
// leaves and stays as it is told.
func fly(p impl.PlanPath, leave int, stay func() int) []int {
	ticks := []int{leave}
	for range p.Steps {
		ticks = append(ticks, ticks[len(ticks)-1]+stay())
	}
	return ticks
}

// windowsOf is all windows of a path, its own behind those of its steps.
func windowsOf(p impl.PlanPath) (froms, bys []int) {
	for _, s := range p.Steps {
		froms, bys = append(froms, s.From), append(bys, s.By)
	}
	return append(froms, p.From), append(bys, p.By)
}

// drawBetween is a number from one to another, at random, often one of the two.
func drawBetween(r *rand.Rand, from, by int) int {
	switch r.IntN(4) {
	case 0:
		return from
	case 1:
		return by
	}
	return from + r.IntN(by-from+1)
}

// checkOver holds a flight against PlanOver: promise 18, its second half, of each point of its route. A flight is
// over a point from when it enters its first step there up to the tick ahead of that at which it goes on.
func checkOver(t *testing.T, b impl.PlanBook, f impl.PlanFlight, p impl.PlanPath, flights [][]int) {
	t.Helper()
	for _, name := range f.Route {
		from, by, ok := impl.PlanOver(b, f.Name, name)
		if !ok || from > by || from < f.From || by >= p.By {
			t.Fatalf("%q is over %q from %d by %d, %v, in %+v", f.Name, name, from, by, ok, b)
		}
		at := slices.IndexFunc(b.Base.Points, func(one impl.PlanPoint) bool { return one.Name == name })
		k := slices.IndexFunc(p.Steps, func(s impl.PlanStep) bool { return s.X == b.Base.Points[at].X && s.Y == b.Base.Points[at].Y })
		var ticks []int
		for _, flight := range flights {
			ticks = append(ticks, flight[k], flight[k+1]-1)
		}
		if slices.Min(ticks) != from || slices.Max(ticks) != by {
			t.Fatalf("over %q from %d by %d, though flights are from %d to %d", name, from, by, slices.Min(ticks), slices.Max(ticks))
		}
	}
}

// Promise 17, and the second half of 18, of paths of each number of cells.
func TestWindows(t *testing.T) {
	r := rand.New(rand.NewPCG(17, 3))
	var counts [41]int
	for range 700 {
		b := drawPathBook(r)
		for _, f := range impl.PlanAll(b) {
			p, code := impl.PlanPathOf(b, f.Name)
			if code != 0 {
				continue
			}
			counts[len(p.Steps)]++
			checkShape(t, f, p)
			froms, bys := windowsOf(p)
			first := fly(p, f.From, func() int { return f.Kind.Quick })
			last := fly(p, f.By, func() int { return f.Kind.Slow })
			if !slices.Equal(first, froms) || !slices.Equal(last, bys) {
				t.Fatalf("%v and %v are not the windows of %+v", first, last, p)
			}
			flights := [][]int{first, last}
			for range 6 {
				flight := fly(p, drawBetween(r, f.From, f.By), func() int { return drawBetween(r, f.Kind.Quick, f.Kind.Slow) })
				flights = append(flights, flight)
				for k, tick := range flight {
					if tick < froms[k] || tick > bys[k] {
						t.Fatalf("%v is not within %+v at %d", flight, p, k)
					}
				}
			}
			checkOver(t, b, f, p, flights)
		}
	}
	if slices.Contains(counts[2:], 0) {
		t.Errorf("no path of some number of cells: %v", counts)
	}
}

// Promise 18, its first half: the path of a route turned round has the cells and levels turned round, and the same windows.
func TestPathsTurnedRound(t *testing.T) {
	r := rand.New(rand.NewPCG(18, 2))
	paths := 0
	for range 500 {
		b := drawPathBook(r)
		for _, f := range impl.PlanAll(b) {
			p, code := impl.PlanPathOf(b, f.Name)
			turned, _ := impl.PlanTake(b, impl.PlanChange{Flight: f.Name, What: 4, Number: 1000000, Value: strings.Join(turnedRound(f.Route), " ")})
			back, backCode := impl.PlanPathOf(turned, f.Name)
			if code != backCode || p.From != back.From || p.By != back.By || len(p.Steps) != len(back.Steps) {
				t.Fatalf("%+v, code %d; back %+v, code %d", p, code, back, backCode)
			}
			for k, s := range p.Steps {
				other := back.Steps[len(back.Steps)-1-k]
				same := back.Steps[k]
				if s.X != other.X || s.Y != other.Y || s.Low != same.Low || s.High != same.High || s.From != same.From || s.By != same.By {
					t.Fatalf("%+v at %d; back %+v", p, k, back)
				}
				paths++
			}
		}
	}
	if paths < 5000 {
		t.Errorf("%d steps in all", paths)
	}
}

// somePathBooks are books to be asked about memory, with paths and with none.
func somePathBooks() []impl.PlanBook {
	broken := pathBook("z level 1 1")
	broken.Entries[1].Fields[0].Value = "7"
	return append(someFlightBooks(), pathBook(), pathBook("k route 2 a far a far"), pathBook("k time 2 10000 10000"), pathBook("k state 1 closed"), pathBook("k route 2 a b c a b c a b", "a kind 1 jet"), broken)
}

func TestPathsAreNotWrittenInto(t *testing.T) {
	for _, book := range somePathBooks() {
		b := fenceBook(book)
		before := wholeBook(b)
		for _, name := range []string{"", "k", "d", "m", "z", "f00", "flight00", "flight11", "fence"} {
			impl.PlanPathOf(b, name)
			for _, point := range []string{"", "a", "b", "far", "off", "point-00", "point-07", "fence"} {
				impl.PlanOver(b, name, point)
			}
		}
		if !reflect.DeepEqual(wholeBook(b), before) {
			t.Errorf("written into: %+v", book)
		}
	}
}

func TestPathsAreNewMemory(t *testing.T) {
	paths := 0
	for _, book := range somePathBooks() {
		b := fenceBook(book)
		for _, name := range []string{"", "k", "d", "m", "z", "f00", "flight00", "flight11", "fence"} {
			first, code := impl.PlanPathOf(b, name)
			second, _ := impl.PlanPathOf(b, name)
			wantNewMemory(t, fmt.Sprintf("PlanPathOf with code %d", code), []any{first, second}, b)
			want := fmt.Sprint(second)
			fillList(first.Steps, impl.PlanStep{X: 99})
			if third, _ := impl.PlanPathOf(b, name); fmt.Sprint(second) != want || fmt.Sprint(third) != want {
				t.Errorf("%q: a path that was written over is that of another call", name)
			}
			paths += len(second.Steps)
		}
	}
	if paths < 20 {
		t.Errorf("%d steps in all", paths)
	}
}
