package tests

import (
	"cmp"
	"fmt"
	"math/rand/v2"
	"reflect"
	"slices"
	"strings"
	"testing"

	"loop.example/lapwing/impl"
)

// wantWay asks for a way, written as its names with a space between them, and how long it is.
func wantWay(t *testing.T, s impl.Sky, from, to, want string, far int) {
	t.Helper()
	if got := impl.SkyWay(s, from, to); strings.Join(got, " ") != want || (want == "") != (len(got) == 0) {
		t.Errorf("the way from %q to %q: %q, not %q", from, to, got, want)
	}
	if got := impl.SkyFar(s, from, to); got != far {
		t.Errorf("from %q to %q it is %d, not %d", from, to, got, far)
	}
}

// waySky is a sky of the greatest side with these points and airways, a line each.
func waySky(lines ...string) impl.Sky {
	return touchSky("sky 16 16 1\nsector all 0 0 15 15 1 1\n" + textOf(lines))
}

func TestWayOfSmallSky(t *testing.T) {
	s := smallSky()
	wantWay(t, s, "a", "b", "a b", 4)
	wantWay(t, s, "b", "a", "b a", 4)
	wantWay(t, s, "a", "c", "a c", 2)
	wantWay(t, s, "c", "b", "c b", 2)
	wantWay(t, s, "c", "a", "c a", 2)
	s.Airways = s.Airways[1:]
	wantWay(t, s, "a", "b", "a c b", 4)
	wantWay(t, s, "b", "a", "b c a", 4)
}

func TestWayThatIsShortest(t *testing.T) {
	// Over far the points are fewer, over p and q the steps.
	s := waySky("point s 0 0", "point far 4 9", "point p 3 0", "point q 6 0", "point t 9 0", "airway j s far t", "airway k s p q t")
	wantWay(t, s, "s", "t", "s p q t", 9)
	wantWay(t, s, "t", "s", "t q p s", 9)
	wantWay(t, s, "p", "far", "p s far", 12)
	// It takes an airway, leaves it for another one, and comes back to it.
	s = waySky("point a 0 0", "point b 2 0", "point c 2 15", "point d 4 0", "point e 6 0", "point f 3 1", "airway j a b c d e", "airway k d f b")
	wantWay(t, s, "a", "e", "a b f d e", 6)
	wantWay(t, s, "e", "a", "e d f b a", 6)
}

func TestWayWithFewestPoints(t *testing.T) {
	s := waySky("point a 0 0", "point b 2 0", "point c 4 0", "point d 6 0", "airway j a b c d", "airway k d b", "airway l a c")
	wantWay(t, s, "a", "d", "a b d", 6)
	wantWay(t, s, "d", "a", "d b a", 6)
	wantWay(t, s, "a", "c", "a c", 4)
	wantWay(t, s, "b", "d", "b d", 4)
	// Names that come later do not count against fewer points.
	s = waySky("point a 1 0", "point b 2 0", "point s 0 0", "point t 3 0", "point z 2 1", "airway j s a b t", "airway k s z t")
	wantWay(t, s, "s", "t", "s z t", 3)
	wantWay(t, s, "t", "s", "t z s", 3)
}

func TestWayThatIsFirstByNames(t *testing.T) {
	// There the second point tells, and back the second from the other end.
	s := waySky("point s 0 0", "point b 2 0", "point c 4 0", "point d 2 1", "point a 4 1", "point t 6 0", "airway j s d a t", "airway k s b c t")
	wantWay(t, s, "s", "t", "s b c t", 6)
	wantWay(t, s, "t", "s", "t a d s", 6)
	// The first points are the same, and what comes behind them tells.
	s = waySky("point s 0 0", "point m 2 0", "point y 4 0", "point x 4 1", "point t 6 0", "airway j s m y t", "airway k m x t")
	wantWay(t, s, "s", "t", "s m x t", 6)
	wantWay(t, s, "t", "s", "t x m s", 6)
	// Names are ordered byte by byte, and the beginning of a longer one comes first.
	for _, names := range [][]string{{"a", "a-"}, {"a", "aa"}, {"aa", "b"}, {"-", "0"}, {"9", "a"}, {"a-z", "a0"}, {"10", "9"}, {"zzzzzzz", "zzzzzzzz"}, {"ab", "b"}} {
		first, second := names[0], names[1]
		for _, airways := range [][]string{{first, second}, {second, first}} {
			for _, cells := range []string{"2 0|2 1", "2 1|2 0"} {
				one, other, _ := strings.Cut(cells, "|")
				s = waySky("point s-s 0 0", "point t-t 4 0", "point "+first+" "+one, "point "+second+" "+other,
					"airway j s-s "+airways[0]+" t-t", "airway k t-t "+airways[1]+" s-s")
				wantWay(t, s, "s-s", "t-t", "s-s "+first+" t-t", 4)
				wantWay(t, s, "t-t", "s-s", "t-t "+first+" s-s", 4)
			}
		}
	}
}

func TestWayGoesOnlyAlongAirways(t *testing.T) {
	// a and c are next to each other in the sky, and not on the airway.
	s := waySky("point a 0 0", "point b 15 15", "point c 1 0", "airway j a b c")
	wantWay(t, s, "a", "c", "a b c", 30)
	wantWay(t, s, "c", "a", "c b a", 30)
	// The ends of an airway are not next to each other, nor is what ends one and what begins the next.
	s = waySky("point a 0 0", "point b 1 0", "point c 2 0", "point d 3 0", "airway j a b", "airway k c d")
	wantWay(t, s, "a", "b", "a b", 1)
	wantWay(t, s, "c", "d", "c d", 1)
	for _, pair := range []string{"ac", "ad", "bc", "bd", "ca", "da", "cb", "db"} {
		wantWay(t, s, pair[:1], pair[1:], "", -1)
	}
}

func TestWayOfPointsOnNoAirway(t *testing.T) {
	s := waySky("point a 0 0", "point b 1 0", "point z 2 0", "airway j a b", "airway k b a")
	wantWay(t, s, "a", "b", "a b", 1)
	wantWay(t, s, "b", "a", "b a", 1)
	for _, name := range []string{"a", "b", "z"} {
		wantWay(t, s, name, name, name, 0)
	}
	for _, name := range []string{"a", "b"} {
		wantWay(t, s, name, "z", "", -1)
		wantWay(t, s, "z", name, "", -1)
	}
	s.Airways = nil
	wantWay(t, s, "a", "b", "", -1)
	wantWay(t, s, "a", "a", "a", 0)
}

func TestWayOfNoPoint(t *testing.T) {
	for _, s := range []impl.Sky{smallSky(), coverSky(1, 1, 1)} {
		for _, none := range []string{"", "z", "A", "aa", "a ", "one", "all", "j1", "r1", "\xff", "a\x00", strings.Repeat("a", 100000)} {
			wantWay(t, s, none, none, "", -1)
			wantWay(t, s, none, "q", "", -1)
			for _, p := range s.Points {
				wantWay(t, s, p.Name, none, "", -1)
				wantWay(t, s, none, p.Name, "", -1)
			}
		}
	}
}

func TestWayOfSkiesThatAreNotValid(t *testing.T) {
	for what, s := range brokenSkies() {
		for _, from := range []string{"a", "b", "c", "z", ""} {
			for _, to := range []string{"a", "b", "c", "z", ""} {
				if way, far := impl.SkyWay(s, from, to), impl.SkyFar(s, from, to); len(way) != 0 || far != -1 {
					t.Errorf("%s: from %q to %q: %q, %d", what, from, to, way, far)
				}
			}
		}
	}
}

// chainSky is a valid sky with 16 points in a row, one behind the other along three airways.
func chainSky() impl.Sky {
	s := fullSky()
	s.Airways = nil
	for i, from := range []int{0, 7, 14} {
		a := impl.SkyAirway{Name: fmt.Sprintf("part%d", i)}
		for _, p := range s.Points[from:min(from+8, 16)] {
			a.Points = append(a.Points, p.Name)
		}
		s.Airways = append(s.Airways, a)
	}
	return s
}

func TestWayOfAllPoints(t *testing.T) {
	s := chainSky()
	var names []string
	for _, p := range s.Points {
		names = append(names, p.Name)
	}
	for i := range names {
		for k := range names {
			want := slices.Clone(names[min(i, k) : max(i, k)+1])
			if i > k {
				slices.Reverse(want)
			}
			wantWay(t, s, names[i], names[k], strings.Join(want, " "), distance(i, k))
		}
	}
}

// nextTo says whether two points are next to each other on some airway.
func nextTo(s impl.Sky, a, b string) bool {
	for _, way := range s.Airways {
		at := slices.Index(way.Points, a)
		if at >= 0 && (at > 0 && way.Points[at-1] == b || at+1 < len(way.Points) && way.Points[at+1] == b) {
			return true
		}
	}
	return false
}

// lengthOf is the steps of the legs along points together.
func lengthOf(s impl.Sky, names []string) int {
	cells := map[string]impl.SkyCell{}
	for _, p := range s.Points {
		cells[p.Name] = cell(p.X, p.Y)
	}
	far := 0
	for i, name := range names[1:] {
		far += len(impl.SkyLeg(cells[names[i]], cells[name])) - 1
	}
	return far
}

// betterWay compares two ways as chapter 7 does.
func betterWay(s impl.Sky, a, b []string) int {
	return cmp.Or(lengthOf(s, a)-lengthOf(s, b), len(a)-len(b), slices.Compare(a, b))
}

// eachWay calls a function with each way that begins with these names, wherever it ends.
func eachWay(s impl.Sky, names []string, use func(way []string)) {
	use(names)
	for _, p := range s.Points {
		if !slices.Contains(names, p.Name) && nextTo(s, names[len(names)-1], p.Name) {
			eachWay(s, append(slices.Clone(names), p.Name), use)
		}
	}
}

// bestOfAll is the best way from a point to each one, of all that there are; and to how many points
// the length alone does not tell it, and length and number of points together do not.
func bestOfAll(s impl.Sky, from string) (best map[string][]string, byPoints, byNames int) {
	all := map[string][][]string{}
	eachWay(s, []string{from}, func(way []string) {
		end := way[len(way)-1]
		all[end] = append(all[end], way)
	})
	best = map[string][]string{}
	for end, ways := range all {
		slices.SortFunc(ways, func(a, b []string) int { return betterWay(s, a, b) })
		best[end] = ways[0]
		if len(ways) > 1 && lengthOf(s, ways[0]) == lengthOf(s, ways[1]) {
			if len(ways[0]) == len(ways[1]) {
				byNames++
			} else {
				byPoints++
			}
		}
	}
	return best, byPoints, byNames
}

// drawWaySky is a valid sky with few points close together, so that many ways are as long.
func drawWaySky(r *rand.Rand, points int) impl.Sky {
	s := coverSky(2+r.IntN(5), 3+r.IntN(4), 1)
	cells := r.Perm(s.Width * s.Height)
	for i, name := range drawNames(r, min(points, len(cells))) {
		s.Points = append(s.Points, impl.SkyPoint{Name: name, X: cells[i] % s.Width, Y: cells[i] / s.Width})
	}
	for _, name := range drawNames(r, 1+r.IntN(8)) {
		a := impl.SkyAirway{Name: name}
		for _, k := range r.Perm(len(s.Points))[:min(len(s.Points), 2+r.IntN(3))] {
			a.Points = append(a.Points, s.Points[k].Name)
		}
		s.Airways = append(s.Airways, a)
	}
	return s
}

// checkWays asks for the best way from a point to each one.
func checkWays(t *testing.T, s impl.Sky, from string, best map[string][]string) {
	t.Helper()
	for _, p := range s.Points {
		way, ok := best[p.Name]
		far := -1
		if ok {
			far = lengthOf(s, way)
		}
		wantWay(t, s, from, p.Name, strings.Join(way, " "), far)
	}
	if t.Failed() {
		t.Fatalf("of %+v", s)
	}
}

// TestWayAgainstAllWays is promise 7, on skies with so few points that all ways can be gone through.
func TestWayAgainstAllWays(t *testing.T) {
	r := rand.New(rand.NewPCG(11, 1))
	points, names, none := 0, 0, 0
	for range 1500 {
		s := drawWaySky(r, 2+r.IntN(6))
		for _, from := range s.Points {
			best, byPoints, byNames := bestOfAll(s, from.Name)
			points, names, none = points+byPoints, names+byNames, none+len(s.Points)-len(best)
			checkWays(t, s, from.Name, best)
		}
	}
	if points < 100 || names < 100 || none < 100 {
		t.Errorf("too few of one kind: %d by their points, %d by their names, %d to which there is none", points, names, none)
	}
}

// bestByRounds is the best way from a point to each one, where there are too many to go through all:
// in each round each way that is the best of so many points is made longer by one.
func bestByRounds(s impl.Sky, from string) map[string][]string {
	best := map[string][]string{from: {from}}
	round := map[string][]string{from: {from}}
	for range s.Points {
		longer := map[string][]string{}
		for end, way := range round {
			for _, p := range s.Points {
				if !nextTo(s, end, p.Name) {
					continue
				}
				on := append(slices.Clone(way), p.Name)
				if old, ok := longer[p.Name]; !ok || betterWay(s, on, old) < 0 {
					longer[p.Name] = on
				}
				if old, ok := best[p.Name]; !ok || betterWay(s, on, old) < 0 {
					best[p.Name] = on
				}
			}
		}
		round = longer
	}
	return best
}

func TestWayOfManyPoints(t *testing.T) {
	r := rand.New(rand.NewPCG(11, 2))
	skies := []impl.Sky{fullSky(), chainSky(), smallSky()}
	for range 25 {
		skies = append(skies, drawSky(r), drawWaySky(r, 16))
	}
	for _, s := range skies {
		for _, from := range s.Points {
			checkWays(t, s, from.Name, bestByRounds(s, from.Name))
		}
	}
}

// TestWayPromise is promise 7, by what is said of a way alone.
func TestWayPromise(t *testing.T) {
	r := rand.New(rand.NewPCG(11, 3))
	for range 40 {
		s := drawSky(r)
		for _, from := range s.Points {
			for _, to := range s.Points {
				checkWay(t, s, from.Name, to.Name)
			}
		}
	}
}

func checkWay(t *testing.T, s impl.Sky, from, to string) {
	t.Helper()
	way, far := impl.SkyWay(s, from, to), impl.SkyFar(s, from, to)
	for _, p := range s.Points {
		one, other := impl.SkyFar(s, from, p.Name), impl.SkyFar(s, p.Name, to)
		if one >= 0 && other >= 0 && (far < 0 || far > one+other) {
			t.Fatalf("from %q to %q it is %d, over %q %d and %d", from, to, far, p.Name, one, other)
		}
	}
	if far != impl.SkyFar(s, to, from) {
		t.Fatalf("from %q to %q it is %d, and back %d", from, to, far, impl.SkyFar(s, to, from))
	}
	if len(way) == 0 {
		if far != -1 {
			t.Fatalf("from %q to %q there is no way, and it is %d", from, to, far)
		}
		return
	}
	if way[0] != from || way[len(way)-1] != to || far != lengthOf(s, way) {
		t.Fatalf("from %q to %q: %q, %d", from, to, way, far)
	}
	for i, name := range way {
		if slices.Contains(way[:i], name) || i > 0 && !nextTo(s, way[i-1], name) {
			t.Fatalf("from %q to %q: %q is no way", from, to, way)
		}
	}
}

func TestWaysWriteNothing(t *testing.T) {
	hole := smallSky()
	hole.Sectors = hole.Sectors[:1]
	for _, s := range []impl.Sky{smallSky(), fullSky(), chainSky(), hole} {
		s = fenceSky(s)
		before := wholeSky(s)
		for _, from := range s.Points {
			for _, to := range []string{"a", "b", "point-00", "point-15", "z"} {
				impl.SkyWay(s, from.Name, to)
				impl.SkyFar(s, from.Name, to)
			}
		}
		if !reflect.DeepEqual(wholeSky(s), before) {
			t.Error("the sky is written into")
		}
	}
}

func TestWayIsNewMemory(t *testing.T) {
	s := chainSky()
	for _, p := range s.Points {
		first, second := impl.SkyWay(s, "point-00", p.Name), impl.SkyWay(s, "point-00", p.Name)
		want := slices.Clone(second)
		fillList(first, "written")
		if !slices.Equal(second, want) || !slices.Equal(impl.SkyWay(s, "point-00", p.Name), want) || !sameSky(s, chainSky()) {
			t.Errorf("to %q: a way shares memory", p.Name)
		}
	}
}
