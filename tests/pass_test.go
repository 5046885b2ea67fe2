package tests

import (
	"fmt"
	"math/rand/v2"
	"reflect"
	"slices"
	"testing"

	"loop.example/lapwing/impl"
)

func wantPasses(t *testing.T, s impl.Sky, places []impl.SkyPlace, want string) {
	t.Helper()
	if got, code := impl.SkyPasses(s, places); fmt.Sprint(got) != want || code != 0 {
		t.Errorf("along %v: %v, code %d, not %s", places, got, code, want)
	}
}

func wantPassCode(t *testing.T, s impl.Sky, places []impl.SkyPlace, want int) {
	t.Helper()
	if got, code := impl.SkyPasses(s, places); len(got) != 0 || code != want {
		t.Errorf("along %v: %v, code %d, not code %d", places, got, code, want)
	}
}

func TestPassesByHand(t *testing.T) {
	s := smallSky()
	one, two := place(0, 0, 1), place(4, 3, 3)
	wantPasses(t, s, nil, "[]")
	wantPasses(t, s, []impl.SkyPlace{}, "[]")
	wantPasses(t, s, []impl.SkyPlace{one}, "[{one 0 0}]")
	wantPasses(t, s, []impl.SkyPlace{two}, "[{two 0 0}]")
	wantPasses(t, s, []impl.SkyPlace{one, one}, "[{one 0 1}]")
	wantPasses(t, s, []impl.SkyPlace{one, two}, "[{one 0 0} {two 1 1}]")
	wantPasses(t, s, []impl.SkyPlace{one, two, one}, "[{one 0 0} {two 1 1} {one 2 2}]")
	wantPasses(t, s, []impl.SkyPlace{two, two, one, one, one, two}, "[{two 0 1} {one 2 4} {two 5 5}]")
	// Other blocks of a sector, at another level, are the same sector.
	wantPasses(t, s, []impl.SkyPlace{place(1, 3, 2), place(0, 0, 3), place(2, 0, 3), place(2, 3, 1)}, "[{one 0 1} {two 2 3}]")
}

func TestPassesOfNoPlace(t *testing.T) {
	s := smallSky()
	numbers := append([]int{-1, 16, 100}, farNumbers...)
	outside := []impl.SkyPlace{place(5, 0, 1), place(0, 4, 1), place(0, 0, 4), place(0, 0, 0)}
	for _, n := range numbers {
		outside = append(outside, place(n, 0, 1), place(0, n, 1), place(0, 0, n), place(n, n, n))
	}
	in := place(0, 0, 1)
	for _, out := range outside {
		wantPassCode(t, s, []impl.SkyPlace{out}, 2)
		wantPassCode(t, s, []impl.SkyPlace{out, in}, 2)
		wantPassCode(t, s, []impl.SkyPlace{in, out}, 2)
		wantPassCode(t, s, []impl.SkyPlace{in, place(4, 0, 1), in, out}, 2)
		wantPassCode(t, s, []impl.SkyPlace{in, out, in}, 2)
		wantPassCode(t, s, []impl.SkyPlace{out, out}, 2)
	}
}

func TestPassesOfSkiesThatAreNotValid(t *testing.T) {
	for what, s := range brokenSkies() {
		for _, places := range [][]impl.SkyPlace{nil, {place(0, 0, 1)}, {place(0, 0, 1), place(4, 0, 1)}, {place(-1, 0, 1)}, {place(0, 0, 1), place(0, 0, 99)}} {
			if got, code := impl.SkyPasses(s, places); len(got) != 0 || code != 1 {
				t.Errorf("%s: along %v: %v, code %d, not code 1", what, places, got, code)
			}
		}
	}
}

// checkPasses asks of passes that they have all places, in order, each in its sector, and as few as may be.
func checkPasses(t *testing.T, s impl.Sky, places []impl.SkyPlace, passes []impl.SkyPass) {
	t.Helper()
	next := 0
	for i, pass := range passes {
		if pass.From != next || pass.To < pass.From || pass.To >= len(places) {
			t.Fatalf("along %v: %v", places, passes)
		}
		for _, p := range places[pass.From : pass.To+1] {
			if sector, _ := whereByPlaces(s, p); sector != pass.Sector {
				t.Fatalf("%v is in %q; along %v: %v", p, sector, places, passes)
			}
		}
		if i > 0 && passes[i-1].Sector == pass.Sector {
			t.Fatalf("along %v one sector is told twice: %v", places, passes)
		}
		next = pass.To + 1
	}
	if next != len(places) {
		t.Fatalf("along %v only %d are told: %v", places, next, passes)
	}
}

func TestPassesAtRandom(t *testing.T) {
	r := rand.New(rand.NewPCG(11, 7))
	for range 1500 {
		s := drawSky(r)
		var places []impl.SkyPlace
		for range r.IntN(12) {
			p := place(r.IntN(s.Width), r.IntN(s.Height), 1+r.IntN(s.Levels))
			places = append(places, slices.Repeat([]impl.SkyPlace{p}, 1+r.IntN(3))...)
		}
		passes, code := impl.SkyPasses(s, places)
		if code != 0 {
			t.Fatalf("along %v: code %d", places, code)
		}
		checkPasses(t, s, places, passes)
		if len(places) == 0 {
			continue
		}
		places[r.IntN(len(places))] = place(s.Width, 0, 1)
		wantPassCode(t, s, places, 2)
	}
}

// TestPassesPromise is promise 9: tracks flown at each level, and the sectors along them.
func TestPassesPromise(t *testing.T) {
	r := rand.New(rand.NewPCG(11, 8))
	followed := 0
	for followed < 2000 {
		s := drawSky(r)
		if len(s.Points) < 2 {
			continue
		}
		var names []string
		for _, p := range drawRoute(r, s, 2+r.IntN(5)) {
			names = append(names, p.Name)
		}
		track, _ := impl.SkyTrack(s, names)
		for level := 1; level <= s.Levels; level++ {
			var places []impl.SkyPlace
			for _, c := range track {
				places = append(places, place(c.X, c.Y, level))
			}
			passes, code := impl.SkyPasses(s, places)
			if code != 0 || len(places) == 0 {
				t.Fatalf("along %v: code %d", places, code)
			}
			checkPasses(t, s, places, passes)
			for i := 1; i < len(passes); i++ {
				followed++
				if a, b := passes[i-1].Sector, passes[i].Sector; !impl.SkyTouch(s, a, b) {
					t.Fatalf("%q and %q follow each other along %v, and do not touch", a, b, places)
				}
			}
		}
	}
}

func TestPassesOfManyPlaces(t *testing.T) {
	s := smallSky()
	var places []impl.SkyPlace
	for i := range 200000 {
		places = append(places, place(i%5, 0, 1))
	}
	passes, code := impl.SkyPasses(s, places)
	if code != 0 || len(passes) != 80000 || passes[79999] != (impl.SkyPass{Sector: "two", From: 199997, To: 199999}) {
		t.Errorf("%d passes, code %d", len(passes), code)
	}
	wantPassCode(t, s, append(places, place(5, 0, 1)), 2)
}

func TestPassesWriteNothing(t *testing.T) {
	hole := smallSky()
	hole.Sectors = hole.Sectors[:1]
	for _, s := range []impl.Sky{smallSky(), hole} {
		for _, places := range [][]impl.SkyPlace{{place(0, 0, 1), place(4, 0, 1), place(4, 1, 1)}, {place(0, 0, 1)}, {place(9, 0, 1)}, {}} {
			s = fenceSky(s)
			before := wholeSky(s)
			want := append(slices.Clone(places), place(77, 77, 77), place(77, 77, 77))
			room := slices.Clone(want)
			impl.SkyPasses(s, room[:len(places)])
			if !reflect.DeepEqual(wholeSky(s), before) || !slices.Equal(room, want) {
				t.Errorf("along %v: something is written into an argument", places)
			}
		}
	}
}

func TestPassesAreNewMemory(t *testing.T) {
	s := smallSky()
	places := []impl.SkyPlace{place(0, 0, 1), place(4, 0, 1), place(4, 1, 1), place(0, 0, 2), place(2, 0, 2)}
	for count := range len(places) + 1 {
		first, _ := impl.SkyPasses(s, places[:count])
		second, _ := impl.SkyPasses(s, places[:count])
		want := slices.Clone(second)
		fillList(first, impl.SkyPass{Sector: "written"})
		if !slices.Equal(second, want) || !sameSky(s, smallSky()) {
			t.Errorf("of %d places: an answer shares memory", count)
		}
	}
}
