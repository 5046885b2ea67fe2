package tests

import (
	"fmt"
	"math"
	"math/rand/v2"
	"reflect"
	"slices"
	"testing"

	"loop.example/lapwing/impl"
)

func cell(x, y int) impl.SkyCell {
	return impl.SkyCell{X: x, Y: y}
}

// wantLeg asks for a leg, written as its cells one behind the other.
func wantLeg(t *testing.T, a, b impl.SkyCell, want string) {
	t.Helper()
	if got := fmt.Sprint(impl.SkyLeg(a, b)); got != want {
		t.Errorf("the leg from %v to %v: %s, not %s", a, b, got, want)
	}
}

func TestLegByHand(t *testing.T) {
	for _, c := range []struct {
		a, b      impl.SkyCell
		leg, back string
	}{
		{cell(0, 0), cell(0, 0), "[{0 0}]", "[{0 0}]"},
		{cell(15, 15), cell(15, 15), "[{15 15}]", "[{15 15}]"},
		{cell(3, 7), cell(4, 7), "[{3 7} {4 7}]", "[{4 7} {3 7}]"},
		{cell(2, 5), cell(2, 2), "[{2 5} {2 4} {2 3} {2 2}]", "[{2 2} {2 3} {2 4} {2 5}]"},
		{cell(0, 0), cell(3, 3), "[{0 0} {1 1} {2 2} {3 3}]", "[{3 3} {2 2} {1 1} {0 0}]"},
		{cell(0, 3), cell(3, 0), "[{0 3} {1 2} {2 1} {3 0}]", "[{3 0} {2 1} {1 2} {0 3}]"},
		// A half goes to the greater number: of Y, up and down, and of X.
		{cell(0, 0), cell(2, 1), "[{0 0} {1 1} {2 1}]", "[{2 1} {1 1} {0 0}]"},
		{cell(0, 1), cell(2, 0), "[{0 1} {1 1} {2 0}]", "[{2 0} {1 1} {0 1}]"},
		{cell(0, 0), cell(1, 2), "[{0 0} {1 1} {1 2}]", "[{1 2} {1 1} {0 0}]"},
		{cell(0, 2), cell(1, 0), "[{0 2} {1 1} {1 0}]", "[{1 0} {1 1} {0 2}]"},
		{cell(4, 9), cell(8, 6), "[{4 9} {5 8} {6 8} {7 7} {8 6}]", "[{8 6} {7 7} {6 8} {5 8} {4 9}]"},
		// Thirds and more.
		{cell(0, 0), cell(3, 1), "[{0 0} {1 0} {2 1} {3 1}]", "[{3 1} {2 1} {1 0} {0 0}]"},
		{cell(0, 1), cell(3, 0), "[{0 1} {1 1} {2 0} {3 0}]", "[{3 0} {2 0} {1 1} {0 1}]"},
		{cell(0, 0), cell(5, 2), "[{0 0} {1 0} {2 1} {3 1} {4 2} {5 2}]", "[{5 2} {4 2} {3 1} {2 1} {1 0} {0 0}]"},
		{cell(1, 0), cell(3, 5), "[{1 0} {1 1} {2 2} {2 3} {3 4} {3 5}]", "[{3 5} {3 4} {2 3} {2 2} {1 1} {1 0}]"},
	} {
		wantLeg(t, c.a, c.b, c.leg)
		wantLeg(t, c.b, c.a, c.back)
	}
}

// eachPair calls a function with each two cells of the greatest sky.
func eachPair(use func(a, b impl.SkyCell)) {
	for i := range 16 * 16 {
		for k := range 16 * 16 {
			use(cell(i%16, i/16), cell(k%16, k/16))
		}
	}
}

func distance(m, n int) int {
	return max(m-n, n-m)
}

func stepsOf(a, b impl.SkyCell) int {
	return max(distance(a.X, b.X), distance(a.Y, b.Y))
}

func turnedRound[T any](list []T) []T {
	list = slices.Clone(list)
	slices.Reverse(list)
	return list
}

// TestLegPromise is promise 5, of each two cells that have a leg.
func TestLegPromise(t *testing.T) {
	eachPair(func(a, b impl.SkyCell) {
		leg := impl.SkyLeg(a, b)
		steps := stepsOf(a, b)
		if len(leg) != steps+1 || leg[0] != a || leg[steps] != b {
			t.Fatalf("the leg from %v to %v: %v", a, b, leg)
		}
		for k, c := range leg {
			if k > 0 && stepsOf(leg[k-1], c) != 1 {
				t.Fatalf("the leg from %v to %v has a step that is none: %v", a, b, leg)
			}
			// Both sides are told in parts of 2 * steps, so that no half is lost.
			x, y := distance(2*steps*(c.X-a.X), 2*k*(b.X-a.X)), distance(2*steps*(c.Y-a.Y), 2*k*(b.Y-a.Y))
			if x > steps || y > steps {
				t.Fatalf("the leg from %v to %v is far from its line: %v", a, b, leg)
			}
		}
		if back := impl.SkyLeg(b, a); !slices.Equal(turnedRound(leg), back) {
			t.Fatalf("the leg from %v to %v: %v; back: %v", a, b, leg, back)
		}
	})
}

// nearestOf tries each number: the one that is nearest to K of N parts of the way, the greater one of two.
func nearestOf(from, to, k, n int) int {
	best := 0
	for try := 1; try < 16; try++ {
		if distance(n*try, n*from+k*(to-from)) <= distance(n*best, n*from+k*(to-from)) {
			best = try
		}
	}
	return best
}

// legByTries says what chapter 6 says, number by number.
func legByTries(a, b impl.SkyCell) []impl.SkyCell {
	if a.X > b.X || a.X == b.X && a.Y > b.Y {
		return turnedRound(legByTries(b, a))
	}
	if a == b {
		return []impl.SkyCell{a}
	}
	var cells []impl.SkyCell
	n := stepsOf(a, b)
	for k := range n + 1 {
		cells = append(cells, cell(nearestOf(a.X, b.X, k, n), nearestOf(a.Y, b.Y, k, n)))
	}
	return cells
}

func TestLegOfAllCells(t *testing.T) {
	eachPair(func(a, b impl.SkyCell) {
		if got, want := impl.SkyLeg(a, b), legByTries(a, b); !slices.Equal(got, want) {
			t.Fatalf("the leg from %v to %v: %v, not %v", a, b, got, want)
		}
	})
}

func TestLegOutside(t *testing.T) {
	inside := []impl.SkyCell{cell(0, 0), cell(15, 15), cell(0, 15), cell(7, 3)}
	for _, n := range append([]int{-16, -1, 16, 17, 100}, farNumbers...) {
		for _, out := range []impl.SkyCell{cell(n, 0), cell(0, n), cell(n, 15), cell(15, n), cell(n, n), cell(n, -1)} {
			for _, in := range inside {
				wantLeg(t, in, out, "[]")
				wantLeg(t, out, in, "[]")
			}
			wantLeg(t, out, out, "[]")
			wantLeg(t, out, cell(math.MaxInt, math.MinInt), "[]")
		}
	}
}

func TestLegIsNewMemory(t *testing.T) {
	for _, end := range []impl.SkyCell{cell(0, 0), cell(1, 0), cell(5, 2), cell(15, 15)} {
		first, second := impl.SkyLeg(cell(0, 0), end), impl.SkyLeg(cell(0, 0), end)
		fillList(first, cell(99, 99))
		if !slices.Equal(second, legByTries(cell(0, 0), end)) || !slices.Equal(impl.SkyLeg(cell(0, 0), end), second) {
			t.Errorf("a leg to %v that was written over is the one that another call gives", end)
		}
	}
}

// trackSky is a valid sky of the greatest size with 16 points, and no airway.
func trackSky() impl.Sky {
	s := fullSky()
	s.Airways = nil
	for i := range s.Points {
		s.Points[i].X, s.Points[i].Y = i*7%16, i*i%16
	}
	return s
}

func wantTrack(t *testing.T, s impl.Sky, points []string, want string) {
	t.Helper()
	got, code := impl.SkyTrack(s, points)
	if fmt.Sprint(got) != want || code != 0 {
		t.Errorf("the track of %q: %v, code %d, not %s", points, got, code, want)
	}
}

func wantTrackCode(t *testing.T, s impl.Sky, points []string, want int) {
	t.Helper()
	if got, code := impl.SkyTrack(s, points); len(got) != 0 || code != want {
		t.Errorf("the track of %q: %v, code %d, not code %d", points, got, code, want)
	}
}

func TestTrackByHand(t *testing.T) {
	s := smallSky()
	wantTrack(t, s, nil, "[]")
	wantTrack(t, s, []string{}, "[]")
	wantTrack(t, s, []string{"a"}, "[{0 0}]")
	wantTrack(t, s, []string{"b"}, "[{4 3}]")
	wantTrack(t, s, []string{"a", "c"}, "[{0 0} {1 1} {2 1}]")
	wantTrack(t, s, []string{"c", "a"}, "[{2 1} {1 1} {0 0}]")
	wantTrack(t, s, []string{"a", "c", "b"}, "[{0 0} {1 1} {2 1} {3 2} {4 3}]")
	wantTrack(t, s, []string{"a", "b"}, "[{0 0} {1 1} {2 2} {3 2} {4 3}]")
	// There and back: a point may come again, only not at once.
	wantTrack(t, s, []string{"a", "c", "a", "c"}, "[{0 0} {1 1} {2 1} {1 1} {0 0} {1 1} {2 1}]")
}

func TestTrackNeedsNoAirway(t *testing.T) {
	with := smallSky()
	without := smallSky()
	without.Airways = nil
	for _, points := range [][]string{{"a", "b"}, {"b", "c"}, {"c", "b", "a"}, {"a", "c", "b", "c"}} {
		got, code := impl.SkyTrack(without, points)
		want, _ := impl.SkyTrack(with, points)
		if code != 0 || len(got) == 0 || !slices.Equal(got, want) {
			t.Errorf("%q: %v, code %d; with airways %v", points, got, code, want)
		}
	}
}

func TestTrackCodes(t *testing.T) {
	s := smallSky()
	for _, none := range []string{"", "z", "A", "aa", "a ", "one", "j1", "r1", "\xff"} {
		wantTrackCode(t, s, []string{none}, 2)
		wantTrackCode(t, s, []string{none, "a"}, 2)
		wantTrackCode(t, s, []string{"a", "b", none}, 2)
		wantTrackCode(t, s, []string{"a", none, "b"}, 2)
		// That one is no point is looked for ahead of one that is the same, wherever they stand.
		wantTrackCode(t, s, []string{none, none}, 2)
		wantTrackCode(t, s, []string{"a", "a", none}, 2)
		wantTrackCode(t, s, []string{none, "a", "a"}, 2)
	}
	for _, points := range [][]string{{"a", "a"}, {"a", "b", "b"}, {"a", "a", "b"}, {"a", "b", "b", "a"}, {"c", "c", "c"}} {
		wantTrackCode(t, s, points, 3)
	}
	for what, s := range brokenSkies() {
		for _, points := range [][]string{nil, {"a"}, {"a", "b"}, {"a", "a"}, {"z"}, {"z", "z"}, {"a", "a", "z"}} {
			if got, code := impl.SkyTrack(s, points); len(got) != 0 || code != 1 {
				t.Errorf("%s: the track of %q: %v, code %d, not code 1", what, points, got, code)
			}
		}
	}
}

// drawRoute are names of points, at random, none the same as the one ahead of it.
func drawRoute(r *rand.Rand, s impl.Sky, count int) []impl.SkyPoint {
	var route []impl.SkyPoint
	for len(route) < count {
		p := s.Points[r.IntN(len(s.Points))]
		if len(route) == 0 || route[len(route)-1] != p {
			route = append(route, p)
		}
	}
	return route
}

// TestTrackPromise is promise 6, on skies and points made at random.
func TestTrackPromise(t *testing.T) {
	r := rand.New(rand.NewPCG(8, 1))
	for range 3000 {
		s := drawSky(r)
		if r.IntN(3) == 0 {
			s = trackSky()
		}
		if len(s.Points) < 2 {
			continue
		}
		route := drawRoute(r, s, 1+r.IntN(9))
		var names []string
		want := []impl.SkyCell{cell(route[0].X, route[0].Y)}
		for i, p := range route {
			names = append(names, p.Name)
			if i > 0 {
				want = append(want, legByTries(cell(route[i-1].X, route[i-1].Y), cell(p.X, p.Y))[1:]...)
			}
		}
		track, code := impl.SkyTrack(s, names)
		if code != 0 || !slices.Equal(track, want) {
			t.Fatalf("the track of %v: %v, code %d, not %v", route, track, code, want)
		}
		rest := track
		for _, p := range route {
			at := slices.Index(rest, cell(p.X, p.Y))
			if at < 0 {
				t.Fatalf("the track of %v does not pass %v: %v", route, p, track)
			}
			rest = rest[at:]
		}
		back, code := impl.SkyTrack(s, turnedRound(names))
		if code != 0 || !slices.Equal(back, turnedRound(track)) {
			t.Fatalf("the track of %v: %v; back: %v, code %d", route, track, back, code)
		}
	}
}

func TestTrackOfManyPoints(t *testing.T) {
	s := smallSky()
	var names []string
	for range 50000 {
		names = append(names, "a", "c")
	}
	track, code := impl.SkyTrack(s, names)
	if code != 0 || len(track) != 2*(len(names)-1)+1 || track[len(track)-1] != cell(2, 1) {
		t.Errorf("%d cells, code %d", len(track), code)
	}
	wantTrackCode(t, s, append(names, "c"), 3)
	wantTrackCode(t, s, append(names, "z"), 2)
}

func TestTrackWritesNothing(t *testing.T) {
	hole := smallSky()
	hole.Sectors = hole.Sectors[:1]
	for _, s := range []impl.Sky{smallSky(), hole} {
		for _, points := range [][]string{{"a", "c", "b"}, {"a"}, {"b", "b"}, {"b", "z"}, {}} {
			s = fenceSky(s)
			before := wholeSky(s)
			room := append(slices.Clone(points), "fence", "fence")
			names := room[:len(points)]
			impl.SkyTrack(s, names)
			if !reflect.DeepEqual(wholeSky(s), before) {
				t.Errorf("%q: the sky is written into", points)
			}
			if !slices.Equal(room, append(slices.Clone(points), "fence", "fence")) {
				t.Errorf("%q: the points are written into: %q", points, room)
			}
		}
	}
}

func TestTrackIsNewMemory(t *testing.T) {
	s := smallSky()
	for _, points := range [][]string{{"a"}, {"a", "c"}, {"a", "c", "b"}} {
		first, _ := impl.SkyTrack(s, points)
		second, _ := impl.SkyTrack(s, points)
		want := fmt.Sprint(second)
		fillList(first, cell(99, 99))
		if fmt.Sprint(second) != want {
			t.Errorf("%q: two tracks share memory", points)
		}
		wantTrack(t, s, points, want)
		if !sameSky(s, smallSky()) {
			t.Errorf("%q: a track shares memory with the sky", points)
		}
	}
}
