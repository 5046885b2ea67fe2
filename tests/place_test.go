package tests

import (
	"math"
	"math/big"
	"math/rand/v2"
	"reflect"
	"testing"

	"loop.example/lapwing/impl"
)

// farNumbers lie at the ends of int, and where sums and differences of numbers of half its size do.
var farNumbers = []int{math.MinInt, math.MinInt + 1, math.MinInt + 2, math.MinInt / 2, math.MinInt32, math.MaxInt32, math.MaxInt/2 + 1, math.MaxInt - 2, math.MaxInt - 1, math.MaxInt}

func place(x, y, level int) impl.SkyPlace {
	return impl.SkyPlace{X: x, Y: y, Level: level}
}

// brokenSkies are skies that are not valid, each by one thing alone; the sectors of most are as they should be.
func brokenSkies() map[string]impl.Sky {
	changes := map[string]func(s *impl.Sky){
		"too wide":             func(s *impl.Sky) { s.Width = 6 },
		"too high":             func(s *impl.Sky) { s.Height = 5 },
		"too many levels":      func(s *impl.Sky) { s.Levels = 4 },
		"too narrow":           func(s *impl.Sky) { s.Width = 4 },
		"points upside down":   func(s *impl.Sky) { s.Points[0], s.Points[1] = s.Points[1], s.Points[0] },
		"two points in a cell": func(s *impl.Sky) { s.Points[2] = impl.SkyPoint{Name: "c", X: 4, Y: 3} },
		"a point outside":      func(s *impl.Sky) { s.Points[2].X = 5 },
		"an airway to nowhere": func(s *impl.Sky) { s.Airways[0].Points[1] = "z" },
		"an airway of no name": func(s *impl.Sky) { s.Airways[0].Name = "" },
		"sectors upside down":  func(s *impl.Sky) { s.Sectors[0], s.Sectors[1] = s.Sectors[1], s.Sectors[0] },
		"a hole":               func(s *impl.Sky) { s.Sectors[1].Blocks[1].X1 = 3 },
		"blocks that overlap":  func(s *impl.Sky) { s.Sectors[1].Blocks[0].Y1 = 2 },
		"a runway of no turn":  func(s *impl.Sky) { s.Runways[0].Turn = 0 },
		"a runway far outside": func(s *impl.Sky) { s.Runways[1].X = math.MaxInt },
	}
	skies := map[string]impl.Sky{"nothing": {}}
	for what, change := range changes {
		s := smallSky()
		change(&s)
		skies[what] = s
	}
	return skies
}

func TestBrokenSkiesAreNotValid(t *testing.T) {
	for what, s := range brokenSkies() {
		if validByPlaces(s) || impl.SkyValid(s) {
			t.Errorf("valid: %s", what)
		}
	}
}

// whereByPlaces is the sector of a place, from the blocks of all sectors.
func whereByPlaces(s impl.Sky, p impl.SkyPlace) (string, bool) {
	name, found := "", false
	for _, n := range s.Sectors {
		for _, b := range n.Blocks {
			if p.X >= b.X0 && p.X <= b.X1 && p.Y >= b.Y0 && p.Y <= b.Y1 && p.Level >= b.Low && p.Level <= b.High {
				name, found = n.Name, true
			}
		}
	}
	return name, found
}

func wantWhere(t *testing.T, s impl.Sky, p impl.SkyPlace, name string, ok bool) {
	t.Helper()
	if got, gotOk := impl.SkyWhere(s, p); got != name || gotOk != ok {
		t.Errorf("%+v is in %q (%v), not in %q (%v), of %+v", p, got, gotOk, name, ok, s)
	}
}

func TestWhereOfSmallSky(t *testing.T) {
	s := smallSky()
	for _, c := range []struct {
		p    impl.SkyPlace
		name string
	}{
		{place(0, 0, 1), "one"}, {place(1, 3, 2), "one"}, {place(1, 3, 3), "one"}, {place(0, 0, 3), "one"},
		{place(2, 0, 1), "two"}, {place(4, 1, 3), "two"}, {place(2, 2, 1), "two"}, {place(4, 3, 3), "two"},
		{place(-1, 0, 1), ""}, {place(5, 0, 1), ""}, {place(0, -1, 1), ""}, {place(0, 4, 1), ""}, {place(0, 0, 0), ""}, {place(0, 0, 4), ""},
		{place(-1, 3, 3), ""}, {place(5, 3, 3), ""}, {place(4, -1, 3), ""}, {place(4, 4, 3), ""}, {place(4, 3, 0), ""}, {place(4, 3, 4), ""},
		{place(0, 0, -1), ""},
	} {
		wantWhere(t, s, c.p, c.name, c.name != "")
	}
}

func TestWhereOfEachPlace(t *testing.T) {
	skies := []impl.Sky{smallSky(), fullSky(), coverSky(1, 1, 1), coverSky(16, 1, 6), coverSky(1, 16, 2)}
	r := rand.New(rand.NewPCG(7, 1))
	for range 25 {
		skies = append(skies, drawSky(r))
	}
	for _, s := range skies {
		// One more on each side: the places just outside.
		for x := -1; x <= s.Width; x++ {
			for y := -1; y <= s.Height; y++ {
				for level := 0; level <= s.Levels+1; level++ {
					name, ok := whereByPlaces(s, place(x, y, level))
					if ok != (inSky(s, x, y) && level >= 1 && level <= s.Levels) {
						t.Fatalf("%d,%d,%d: the test's own sky is wrong: %+v", x, y, level, s)
					}
					wantWhere(t, s, place(x, y, level), name, ok)
				}
			}
		}
	}
}

func TestWhereFarOutside(t *testing.T) {
	for _, s := range []impl.Sky{smallSky(), fullSky(), coverSky(1, 1, 1)} {
		for _, far := range farNumbers {
			wantWhere(t, s, place(far, 0, 1), "", false)
			wantWhere(t, s, place(0, far, 1), "", false)
			wantWhere(t, s, place(0, 0, far), "", false)
			wantWhere(t, s, place(far, far, far), "", false)
		}
	}
}

func TestWhereOfSkiesThatAreNotValid(t *testing.T) {
	for what, s := range brokenSkies() {
		for _, p := range []impl.SkyPlace{{}, place(0, 0, 1), place(2, 2, 2), place(4, 3, 3), place(math.MaxInt, 0, 1)} {
			if name, ok := impl.SkyWhere(s, p); name != "" || ok {
				t.Errorf("%s: %+v is in %q (%v)", what, p, name, ok)
			}
		}
	}
}

func TestPlacesWriteNothing(t *testing.T) {
	hole := smallSky()
	hole.Sectors = hole.Sectors[:1]
	for i, s := range []impl.Sky{smallSky(), fullSky(), hole} {
		s = fenceSky(s)
		before := wholeSky(s)
		impl.SkyWhere(s, place(0, 0, 1))
		impl.SkyTouch(s, s.Sectors[0].Name, s.Sectors[len(s.Sectors)-1].Name)
		if !reflect.DeepEqual(wholeSky(s), before) {
			t.Errorf("sky %d is written into", i)
		}
	}
}

// nearByBig says what chapter 5 says of whole numbers, which have no ends.
func nearByBig(a, b impl.SkyPlace) bool {
	apart := func(m, n int) *big.Int {
		d := new(big.Int).Sub(big.NewInt(int64(m)), big.NewInt(int64(n)))
		return d.Abs(d)
	}
	two := big.NewInt(2)
	return a.Level == b.Level && apart(a.X, b.X).Cmp(two) < 0 && apart(a.Y, b.Y).Cmp(two) < 0
}

func wantNear(t *testing.T, a, b impl.SkyPlace, want bool) {
	t.Helper()
	if got := impl.SkyNear(a, b); got != want {
		t.Errorf("%+v and %+v: near is %v", a, b, got)
	}
	if got := impl.SkyNear(b, a); got != want {
		t.Errorf("%+v and %+v: near is %v, the other way round", a, b, got)
	}
}

func TestNearByHand(t *testing.T) {
	if impl.SkyApart != 2 {
		t.Error("SkyApart is 2")
	}
	a := place(3, 5, 2)
	for dx := -3; dx <= 3; dx++ {
		for dy := -3; dy <= 3; dy++ {
			near := dx >= -1 && dx <= 1 && dy >= -1 && dy <= 1
			wantNear(t, a, place(3+dx, 5+dy, 2), near)
			wantNear(t, a, place(3+dx, 5+dy, 1), false)
			wantNear(t, a, place(3+dx, 5+dy, 3), false)
			wantNear(t, place(3, 5, 0), place(3+dx, 5+dy, 0), near)
		}
	}
}

func TestNearAtTheEndsOfInt(t *testing.T) {
	least, most := math.MinInt, math.MaxInt
	for _, c := range []struct {
		a, b impl.SkyPlace
		near bool
	}{
		// Round the end of int each of these would be 1 apart, or 0.
		{place(least, 0, 1), place(most, 0, 1), false},
		{place(0, least, 1), place(0, most, 1), false},
		{place(least, least, 1), place(most, most, 1), false},
		{place(least, 0, 1), place(0, 0, 1), false},
		{place(0, 0, 1), place(0, least, 1), false},
		{place(most, 0, 1), place(-1, 0, 1), false},
		{place(least, most, 1), place(least+1, most-1, 1), true},
		{place(least, most, 1), place(least, most, 1), true},
		{place(least, most, least), place(least, most, least), true},
		{place(least, most, least), place(least, most, most), false},
		{place(least, 0, 1), place(least+2, 0, 1), false},
		{place(0, most, 1), place(0, most-2, 1), false},
		{place(least/2, 0, 1), place(most/2+1, 0, 1), false},
	} {
		wantNear(t, c.a, c.b, c.near)
	}
	numbers := append([]int{-2, -1, 0, 1, 2, math.MinInt/2 + 1, math.MaxInt / 2}, farNumbers...)
	for _, ax := range numbers {
		for _, ay := range numbers {
			for _, bx := range numbers {
				for _, by := range numbers {
					wantNear(t, place(ax, ay, ay), place(bx, by, ay), nearByBig(place(ax, ay, 0), place(bx, by, 0)))
				}
			}
		}
	}
	for _, m := range numbers {
		for _, n := range numbers {
			wantNear(t, place(1, 1, m), place(1, 2, n), m == n)
		}
	}
}

func TestNearHangsOnNoPlace(t *testing.T) {
	shifts := append([]int{0, 1, 15, 16, 1000}, farNumbers...)
	for dx := -2; dx <= 2; dx++ {
		for dy := -2; dy <= 2; dy++ {
			for dl := -1; dl <= 1; dl++ {
				want := impl.SkyNear(place(0, 0, 0), place(dx, dy, dl))
				for _, x := range shifts {
					for _, y := range shifts {
						// Where the other one's number would lie past an end of int there is no such place.
						if (x+dx > x) != (dx > 0) && dx != 0 || (y+dy > y) != (dy > 0) && dy != 0 {
							continue
						}
						wantNear(t, place(x, y, 3), place(x+dx, y+dy, 3+dl), want)
					}
				}
			}
		}
	}
}

func TestNearAtRandom(t *testing.T) {
	r := rand.New(rand.NewPCG(7, 2))
	for range 200000 {
		a := place(int(r.Uint64()), int(r.Uint64()), r.IntN(3))
		b := place(a.X+r.IntN(7)-3, a.Y+r.IntN(7)-3, r.IntN(3))
		if r.IntN(8) == 0 {
			b.Y = int(r.Uint64())
		}
		wantNear(t, a, b, nearByBig(a, b))
	}
}

// touchByPlaces looks at each two places of two sectors.
func touchByPlaces(s impl.Sky, a, b string) bool {
	if a == b {
		return false
	}
	var ones, others []impl.SkyPlace
	for i := range s.Width * s.Height * s.Levels {
		p := place(i%s.Width, i/s.Width%s.Height, i/s.Width/s.Height+1)
		switch name, _ := whereByPlaces(s, p); name {
		case a:
			ones = append(ones, p)
		case b:
			others = append(others, p)
		}
	}
	oneApart := func(m, n int) bool { return m-n >= -1 && m-n <= 1 }
	for _, p := range ones {
		for _, q := range others {
			if oneApart(p.X, q.X) && oneApart(p.Y, q.Y) && oneApart(p.Level, q.Level) {
				return true
			}
		}
	}
	return false
}

func wantTouch(t *testing.T, s impl.Sky, a, b string, want bool) {
	t.Helper()
	if got := impl.SkyTouch(s, a, b); got != want {
		t.Errorf("%q and %q: touch is %v, of %+v", a, b, got, s)
	}
	if got := impl.SkyTouch(s, b, a); got != want {
		t.Errorf("%q and %q: touch is %v, the other way round, of %+v", a, b, got, s)
	}
}

// touchSky is the sky of a text that has no fault.
func touchSky(text string) impl.Sky {
	s, f := impl.SkyParse(text)
	if f != (impl.SkyFault{}) {
		panic(text)
	}
	return s
}

func TestTouchByHand(t *testing.T) {
	row := touchSky("sky 5 1 1\nsector a 0 0 1 0 1 1\nsector b 2 0 2 0 1 1\nsector c 3 0 4 0 1 1\n")
	wantTouch(t, row, "a", "b", true)
	wantTouch(t, row, "b", "c", true)
	wantTouch(t, row, "a", "c", false)
	column := touchSky("sky 1 5 1\nsector a 0 0 0 1 1 1\nsector b 0 2 0 2 1 1\nsector c 0 3 0 4 1 1\n")
	wantTouch(t, column, "a", "b", true)
	wantTouch(t, column, "b", "c", true)
	wantTouch(t, column, "a", "c", false)
	tower := touchSky("sky 1 1 5\nsector a 0 0 0 0 1 2\nsector b 0 0 0 0 3 3\nsector c 0 0 0 0 4 5\n")
	wantTouch(t, tower, "a", "b", true)
	wantTouch(t, tower, "b", "c", true)
	wantTouch(t, tower, "a", "c", false)
	corner := touchSky("sky 4 4 1\nsector a 0 0 1 1 1 1\nsector b 2 2 3 3 1 1\nsector c 0 2 1 3 1 1\nsector d 2 0 3 1 1 1\n")
	for _, pair := range []string{"ab", "ac", "ad", "bc", "bd", "cd"} {
		wantTouch(t, corner, pair[:1], pair[1:], true)
	}
	// One cell, or one level, lies between; in the other numbers they are next to each other.
	apart := touchSky("sky 3 2 3\nsector a 0 0 0 0 1 1\nsector b 2 1 2 1 2 2\nsector c 0 1 0 1 3 3\nsector d 0 0 0 0 2 3\nsector d 0 1 0 1 1 2\nsector d 1 0 1 1 1 3\nsector e 2 0 2 0 1 3\nsector e 2 1 2 1 1 1\nsector e 2 1 2 1 3 3\n")
	wantTouch(t, apart, "a", "b", false)
	wantTouch(t, apart, "a", "c", false)
	wantTouch(t, apart, "b", "c", false)
	wantTouch(t, apart, "a", "d", true)
	wantTouch(t, apart, "a", "e", false)
	wantTouch(t, apart, "b", "d", true)
	// At a corner of corners: all three numbers are 1 apart.
	corners := touchSky("sky 2 2 2\nsector a 0 0 0 0 1 1\nsector b 1 1 1 1 2 2\nsector c 0 0 0 1 2 2\nsector c 0 1 0 1 1 1\nsector c 1 0 1 0 1 2\nsector c 1 1 1 1 1 1\n")
	wantTouch(t, corners, "a", "b", true)
	// Only the last blocks of both touch.
	last := touchSky("sky 7 1 1\nsector a 0 0 0 0 1 1\nsector a 4 0 4 0 1 1\nsector b 2 0 2 0 1 1\nsector b 5 0 5 0 1 1\nsector c 1 0 1 0 1 1\nsector d 3 0 3 0 1 1\nsector e 6 0 6 0 1 1\n")
	wantTouch(t, last, "a", "b", true)
	wantTouch(t, last, "a", "c", true)
	wantTouch(t, last, "a", "e", false)
	wantTouch(t, last, "b", "e", true)
	wantTouch(t, last, "c", "d", false)
}

func TestTouchOfOneSector(t *testing.T) {
	// A sector does not touch itself, though its blocks lie side by side.
	for _, s := range []impl.Sky{smallSky(), fullSky(), coverSky(3, 3, 3)} {
		for _, n := range s.Sectors {
			wantTouch(t, s, n.Name, n.Name, false)
		}
	}
}

func TestTouchOfNoSector(t *testing.T) {
	s := smallSky()
	for _, none := range []string{"", "three", "on", "onee", "One", "one ", "a", "j1", "r1", "\xff", "one\x00"} {
		wantTouch(t, s, "one", none, false)
		wantTouch(t, s, "two", none, false)
		wantTouch(t, s, none, none, false)
		wantTouch(t, s, none, "zzz", false)
	}
	wantTouch(t, s, "one", "two", true)
}

func TestTouchOfSkiesThatAreNotValid(t *testing.T) {
	for what, s := range brokenSkies() {
		if impl.SkyTouch(s, "one", "two") || impl.SkyTouch(s, "two", "one") {
			t.Errorf("touch: %s", what)
		}
	}
}

func TestTouchAtRandom(t *testing.T) {
	r := rand.New(rand.NewPCG(7, 3))
	count := map[bool]int{}
	for count[true]+count[false] < 4000 {
		s := drawSky(r)
		if s.Width*s.Height*s.Levels > 200 {
			continue
		}
		for _, a := range s.Sectors {
			for _, b := range s.Sectors {
				want := touchByPlaces(s, a.Name, b.Name)
				wantTouch(t, s, a.Name, b.Name, want)
				if a.Name != b.Name {
					count[want]++
				}
			}
		}
	}
	if count[true] < 500 || count[false] < 200 {
		t.Errorf("too few of one kind: %v", count)
	}
}
