package tests

import (
	"fmt"
	"math"
	"math/rand/v2"
	"reflect"
	"slices"
	"strings"
	"testing"

	"loop.example/lapwing/impl"
)

// pointsBase is a base that has nothing but points in some cells: the points a, b, c and so on.
func pointsBase(cells ...impl.SkyCell) impl.PlanBase {
	b := impl.PlanBase{}
	for i, c := range cells {
		b.Points = append(b.Points, impl.PlanPoint{Name: string(rune('a' + i)), X: c.X, Y: c.Y})
	}
	return b
}

// wantCells asks for the cells of a route, its names with spaces between, and of it turned round.
func wantCells(t *testing.T, b impl.PlanBase, route, want string) {
	t.Helper()
	names := strings.Split(route, " ")
	got, ok := impl.PlanCells(b, names)
	if !ok || fmt.Sprint(got) != want {
		t.Errorf("the cells of %q: %v, %v, not %s", route, got, ok, want)
	}
	back, ok := impl.PlanCells(b, turnedRound(names))
	if !ok || fmt.Sprint(turnedRound(back)) != want {
		t.Errorf("the cells of %q turned round: %v, %v, not %s turned round", route, back, ok, want)
	}
}

func wantNoCells(t *testing.T, what string, b impl.PlanBase, routes ...[]string) {
	t.Helper()
	for _, route := range routes {
		if got, ok := impl.PlanCells(b, route); ok || len(got) != 0 {
			t.Errorf("%s: %v, %v of %.200q", what, got, ok, route)
		}
	}
}

// wantCount asks how many cells a route has; more than 40 are none.
func wantCount(t *testing.T, b impl.PlanBase, route []string, want int) {
	t.Helper()
	got, ok := impl.PlanCells(b, route)
	if want > 40 {
		wantNoCells(t, fmt.Sprint(want, " cells"), b, route)
	} else if !ok || len(got) != want {
		t.Errorf("%d cells, %v of %q, not %d", len(got), ok, route, want)
	}
}

func TestPlanCellsLimit(t *testing.T) {
	if impl.PlanMaxSteps != 40 {
		t.Error("not the number of the document", impl.PlanMaxSteps)
	}
}

// All eight directions, from the middle out; wantCells goes the way back as well.
func TestPlanCellsInEachDirection(t *testing.T) {
	for _, c := range []struct {
		x, y int
		want string
	}{
		{7, 10, "[{7 7} {7 8} {7 9} {7 10}]"},
		{10, 10, "[{7 7} {8 8} {9 9} {10 10}]"},
		{10, 7, "[{7 7} {8 7} {9 7} {10 7}]"},
		{10, 4, "[{7 7} {8 6} {9 5} {10 4}]"},
		{7, 4, "[{7 7} {7 6} {7 5} {7 4}]"},
		{4, 4, "[{7 7} {6 6} {5 5} {4 4}]"},
		{4, 7, "[{7 7} {6 7} {5 7} {4 7}]"},
		{4, 10, "[{7 7} {6 8} {5 9} {4 10}]"},
		// Flat ones and steep ones, in between, with no half.
		{10, 8, "[{7 7} {8 7} {9 8} {10 8}]"},
		{10, 6, "[{7 7} {8 7} {9 6} {10 6}]"},
		{4, 8, "[{7 7} {6 7} {5 8} {4 8}]"},
		{4, 6, "[{7 7} {6 7} {5 6} {4 6}]"},
		{8, 10, "[{7 7} {7 8} {8 9} {8 10}]"},
		{6, 10, "[{7 7} {7 8} {6 9} {6 10}]"},
		{8, 4, "[{7 7} {7 6} {8 5} {8 4}]"},
		{6, 4, "[{7 7} {7 6} {6 5} {6 4}]"},
		{12, 9, "[{7 7} {8 7} {9 8} {10 8} {11 9} {12 9}]"},
		{9, 2, "[{7 7} {7 6} {8 5} {8 4} {9 3} {9 2}]"},
	} {
		wantCells(t, pointsBase(cell(7, 7), cell(c.x, c.y)), "a b", c.want)
	}
}

// A half goes to the greater number, whichever way it is flown.
func TestPlanCellsOfHalves(t *testing.T) {
	for _, c := range []struct {
		from, to impl.SkyCell
		want     string
	}{
		// Of Y, up and down; of X, to the right and to the left.
		{cell(7, 7), cell(9, 8), "[{7 7} {8 8} {9 8}]"},
		{cell(7, 7), cell(9, 6), "[{7 7} {8 7} {9 6}]"},
		{cell(7, 7), cell(5, 8), "[{7 7} {6 8} {5 8}]"},
		{cell(7, 7), cell(5, 6), "[{7 7} {6 7} {5 6}]"},
		{cell(7, 7), cell(8, 9), "[{7 7} {8 8} {8 9}]"},
		{cell(7, 7), cell(6, 9), "[{7 7} {7 8} {6 9}]"},
		{cell(7, 7), cell(8, 5), "[{7 7} {8 6} {8 5}]"},
		{cell(7, 7), cell(6, 5), "[{7 7} {7 6} {6 5}]"},
		// Several of them on one leg.
		{cell(0, 0), cell(6, 3), "[{0 0} {1 1} {2 1} {3 2} {4 2} {5 3} {6 3}]"},
		{cell(0, 3), cell(6, 0), "[{0 3} {1 3} {2 2} {3 2} {4 1} {5 1} {6 0}]"},
		{cell(4, 9), cell(8, 6), "[{4 9} {5 8} {6 8} {7 7} {8 6}]"},
		{cell(0, 0), cell(15, 15), "[{0 0} {1 1} {2 2} {3 3} {4 4} {5 5} {6 6} {7 7} {8 8} {9 9} {10 10} {11 11} {12 12} {13 13} {14 14} {15 15}]"},
	} {
		wantCells(t, pointsBase(c.from, c.to), "a b", c.want)
	}
}

func TestPlanCellsOfEachLeg(t *testing.T) {
	route, back := []string{"a", "b"}, []string{"b", "a"}
	eachPair(func(a, b impl.SkyCell) {
		base := pointsBase(a, b)
		if a == b {
			wantNoCells(t, "two points in one cell", base, route, back)
			return
		}
		want := legByTries(a, b)
		got, ok := impl.PlanCells(base, route)
		if !ok || !slices.Equal(got, planCells(want)) {
			t.Fatalf("from %v to %v: %v, %v, not %v", a, b, got, ok, want)
		}
		got, ok = impl.PlanCells(base, back)
		if !ok || !slices.Equal(got, planCells(turnedRound(want))) {
			t.Fatalf("from %v to %v: %v, %v, not %v", b, a, got, ok, turnedRound(want))
		}
	})
}

// planCells are cells of the sky as cells of plans.
func planCells(cells []impl.SkyCell) []impl.PlanCell {
	var same []impl.PlanCell
	for _, c := range cells {
		same = append(same, impl.PlanCell{X: c.X, Y: c.Y})
	}
	return same
}

func TestPlanCellsOfSeveralLegs(t *testing.T) {
	b := pointsBase(cell(0, 0), cell(3, 1), cell(3, 3), cell(1, 3), cell(4, 1))
	wantCells(t, b, "a b c", "[{0 0} {1 0} {2 1} {3 1} {3 2} {3 3}]")
	// One straight on, and each step a leg of its own.
	wantCells(t, b, "a b e", "[{0 0} {1 0} {2 1} {3 1} {4 1}]")
	wantCells(t, b, "b e b e", "[{3 1} {4 1} {3 1} {4 1}]")
	// There and back, over the same cells; a point may come again, only not at once.
	wantCells(t, b, "a b a", "[{0 0} {1 0} {2 1} {3 1} {2 1} {1 0} {0 0}]")
	wantCells(t, b, "b c b c", "[{3 1} {3 2} {3 3} {3 2} {3 1} {3 2} {3 3}]")
	// Round, and over the first point once more.
	wantCells(t, b, "b c d b", "[{3 1} {3 2} {3 3} {2 3} {1 3} {2 2} {3 1}]")
	wantCells(t, b, "e b a b e", "[{4 1} {3 1} {2 1} {1 0} {0 0} {1 0} {2 1} {3 1} {4 1}]")
	// Over a point that is not of the route.
	over := pointsBase(cell(0, 0), cell(4, 0), cell(2, 0))
	wantCells(t, over, "a b", "[{0 0} {1 0} {2 0} {3 0} {4 0}]")
	wantCells(t, over, "a c b", "[{0 0} {1 0} {2 0} {3 0} {4 0}]")
}

// The names of points are what counts, not the order in which these stand.
func TestPlanCellsOfOtherNames(t *testing.T) {
	b := impl.PlanBase{Points: []impl.PlanPoint{{Name: "-", X: 9, Y: 9}, {Name: "-0", X: 7, Y: 9}, {Name: "0", X: 8, Y: 9}, {Name: "zzzzzzzz", X: 15, Y: 9}}}
	wantCells(t, b, "-0 0 -", "[{7 9} {8 9} {9 9}]")
	wantCells(t, b, "- -0", "[{9 9} {8 9} {7 9}]")
	// Kinds may have the names of points.
	b.Kinds = []impl.PlanKind{{Name: "-", Quick: 1, Slow: 1}, {Name: "kite", Quick: 50, Slow: 50}}
	wantCells(t, b, "- -0", "[{9 9} {8 9} {7 9}]")
	wantNoCells(t, "the name of a kind", b, []string{"-", "kite"}, []string{"kite", "-"})
}

func TestPlanCellsOfRoutesThatDoNotFit(t *testing.T) {
	for what, b := range map[string]impl.PlanBase{"a small base": smallBase(), "points alone": pointsBase(cell(0, 0), cell(5, 1), cell(1, 5)), "nothing": {}} {
		wantNoCells(t, what, b, nil, []string{}, []string{""}, []string{"a"}, []string{"b"}, []string{"z"}, []string{"", ""},
			[]string{"a", "z"}, []string{"z", "a"}, []string{"a", "z", "b"}, []string{"a", "b", "z"}, []string{"a", ""}, []string{"", "a"}, []string{"a", "", "b"},
			[]string{"a", "a"}, []string{"a", "a", "b"}, []string{"a", "b", "b"}, []string{"a", "b", "b", "a"}, []string{"c", "c", "c"},
			[]string{"a", "b", "a", "b", "a", "b", "a", "a"},
			// A text of several words is no name, nor is one that is nearly one.
			[]string{"a b"}, []string{"a b", "c"}, []string{"a", "b c"}, []string{"a ", "b"}, []string{"a", " b"}, []string{"a", "B"}, []string{"a", "aa"}, []string{"a", "\xff"}, []string{"a", "b\n"}, []string{"a", "b\x00"}, []string{"a", strings.Repeat("b", 5000)},
			[]string{"jet", "glider"}, []string{"a", "jet"}, []string{"jet", "a"})
	}
}

func TestPlanCellsOfBasesThatAreNotOk(t *testing.T) {
	route := []string{"a", "b"}
	for what, b := range brokenBases() {
		wantNoCells(t, what, b, nil, []string{"a"}, route, []string{"b", "a"}, []string{"a", "z"}, []string{"a", "a"}, []string{"a", "b", "a", "b", "a", "b", "a", "b"})
	}
	wantNoCells(t, "no base", impl.PlanBase{}, route)
	// What is wrong with it may have nothing to do with the route.
	far := smallBase()
	far.Points[2].X = -1
	wantNoCells(t, "a point outside", far, route, []string{"a", "c"}, []string{"c", "b"})
	slow := smallBase()
	slow.Kinds[1].Slow = 51
	wantNoCells(t, "a kind that is too slow", slow, route)
}

func TestPlanCellsOfNumbersFarAway(t *testing.T) {
	for _, n := range append([]int{-16, -1, 16, 17}, farNumbers...) {
		for _, out := range []impl.SkyCell{cell(n, 0), cell(0, n), cell(n, 15), cell(15, n), cell(n, n), cell(n, math.MaxInt), cell(math.MinInt, n)} {
			for _, in := range []impl.SkyCell{cell(0, 0), cell(15, 15), cell(7, 3)} {
				wantNoCells(t, fmt.Sprint(out), pointsBase(in, out), []string{"a", "b"}, []string{"b", "a"})
				wantNoCells(t, fmt.Sprint(out), pointsBase(out, in), []string{"a", "b"}, []string{"b", "a"})
			}
		}
	}
}

// A route has 2 to 8 points, whatever they are.
func TestPlanCellsOfManyPoints(t *testing.T) {
	b := smallBase()
	for i := range b.Points {
		b.Points[i].X, b.Points[i].Y = i, 0
	}
	var route []string
	for count := 1; count <= 20; count++ {
		route = append(route, b.Points[count%2].Name)
		if count < 2 || count > 8 {
			wantNoCells(t, fmt.Sprint(count, " points"), b, route)
			continue
		}
		wantCount(t, b, route, count)
	}
	for len(route) < 100000 {
		route = append(route, route...)
	}
	wantNoCells(t, "very many points", b, route)
	wantCells(t, b, "a b c b a b c b", "[{0 0} {1 0} {2 0} {1 0} {0 0} {1 0} {2 0} {1 0}]")
}

// 40 cells are told, 41 are not, wherever the last of them lies.
func TestPlanCellsOfManyCells(t *testing.T) {
	for last := range 15 {
		b := pointsBase(cell(0, 0), cell(15, 0), cell(15, 15), cell(last, 15))
		wantCount(t, b, []string{"a", "b", "c", "d"}, 31+15-last)
		wantCount(t, b, []string{"d", "c", "b", "a"}, 31+15-last)
		up := pointsBase(cell(0, 0), cell(0, 15), cell(15, 0), cell(15, 15-last))
		wantCount(t, up, []string{"a", "b", "c", "d"}, 31+15-last)
		wantCount(t, up, []string{"d", "c", "b", "a"}, 31+15-last)
	}
	// Seven legs, each of six steps or of five: out of b to a or to c, and back.
	for choice := range 16 {
		b := pointsBase(cell(0, 0), cell(6, 2), cell(1, 2))
		route, cells := []string{"b"}, 1
		for i := range 7 {
			next, steps := "a", 6
			if choice&(1<<(i/2)) != 0 {
				next, steps = "c", 5
			}
			if i%2 == 1 {
				next = "b"
			}
			route, cells = append(route, next), cells+steps
		}
		wantCount(t, b, route, cells)
		wantCount(t, b, turnedRound(route), cells)
	}
	far := pointsBase(cell(0, 0), cell(15, 15))
	wantCount(t, far, strings.Fields("a b a"), 31)
	wantCount(t, far, strings.Fields("a b a b"), 46)
	wantCount(t, far, strings.Fields("a b a b a b a b"), 106)
	b := pointsBase(cell(0, 0), cell(13, 5))
	wantCount(t, b, strings.Fields("a b a b"), 40)
	b = pointsBase(cell(0, 0), cell(10, 5))
	wantCount(t, b, strings.Fields("a b a b a"), 41)
	wantCount(t, b, strings.Fields("b a b a b"), 41)
}

// cellsByTries says what chapter 17 says of a route that fits, leg by leg.
func cellsByTries(b impl.PlanBase, route []string) []impl.PlanCell {
	var cells []impl.SkyCell
	for _, name := range route {
		at := slices.IndexFunc(b.Points, func(p impl.PlanPoint) bool { return p.Name == name })
		end := cell(b.Points[at].X, b.Points[at].Y)
		if len(cells) == 0 {
			cells = append(cells, end)
			continue
		}
		leg := legByTries(cells[len(cells)-1], end)
		cells = append(cells[:len(cells)-1], leg...)
	}
	return planCells(cells)
}

// drawPathBase is a base that is ok, made at random, with a kind and two points at least; in some the points are near each other.
func drawPathBase(r *rand.Rand) impl.PlanBase {
	b := drawBase(r)
	for len(b.Kinds) == 0 || len(b.Points) < 2 {
		b = drawBase(r)
	}
	side := 4 + r.IntN(13)
	if r.IntN(4) == 0 {
		side = 16
	}
	cells := r.Perm(side * side)
	x, y := r.IntN(17-side), r.IntN(17-side)
	for i := range b.Points {
		b.Points[i].X, b.Points[i].Y = x+cells[i]%side, y+cells[i]/side
	}
	return b
}

// Promise 18, its first half: a route turned round has the cells turned round. And each cell is that of the
// legs, one after the other.
func TestPlanCellsAtRandom(t *testing.T) {
	r := rand.New(rand.NewPCG(17, 1))
	var counts [42]int
	for range 4000 {
		b := drawPathBase(r)
		for range 4 {
			route := strings.Split(drawFitting(r, b, 4), " ")
			want := cellsByTries(b, route)
			counts[min(len(want), 41)]++
			got, ok := impl.PlanCells(b, route)
			back, backOk := impl.PlanCells(b, turnedRound(route))
			if len(want) > 40 {
				want = nil
			}
			if ok != (want != nil) || !slices.Equal(got, want) {
				t.Fatalf("%v, %v, not %v, of %q and %+v", got, ok, want, route, b)
			}
			if backOk != ok || !slices.Equal(back, turnedRound(got)) {
				t.Fatalf("%v, %v; back %v, %v, of %q and %+v", got, ok, back, backOk, route, b)
			}
		}
	}
	if slices.Contains(counts[2:], 0) {
		t.Errorf("no route of some number of cells: %v", counts)
	}
}

// A route fits just if its names, with spaces between, fit as a value, if none of them has a space.
func TestPlanCellsOfWhatFits(t *testing.T) {
	r := rand.New(rand.NewPCG(17, 2))
	count := map[bool]int{}
	for range 6000 {
		b := drawBase(r)
		if r.IntN(2) == 0 {
			b = drawPathBase(r)
		}
		value := drawFitting(r, b, 4)
		for try := range 5 {
			route := strings.Split(value, " ")
			fits := okByLists(b) && fitsByForms(b, 4, value)
			count[fits]++
			got, ok := impl.PlanCells(b, route)
			if want := fits && len(cellsByTries(b, route)) <= 40; ok != want || ok != (len(got) > 0) {
				t.Fatalf("%v, %v, not %v, of %q and %+v", got, ok, want, route, b)
			}
			if try%2 == 0 {
				bendBase(r, &b)
			} else {
				value = bendText(r, value)
			}
		}
	}
	if count[true] < 3000 || count[false] < 3000 {
		t.Errorf("too few of one kind: %v", count)
	}
}

func wantLevels(t *testing.T, steps, level int, want string) {
	t.Helper()
	if got := fmt.Sprint(impl.PlanLevels(steps, level)); got != want {
		t.Errorf("the levels of %d steps and level %d: %s, not %s", steps, level, got, want)
	}
}

func TestPlanLevelsByHand(t *testing.T) {
	for level := 1; level <= 6; level++ {
		wantLevels(t, 1, level, "[0]")
		wantLevels(t, 2, level, "[0 0]")
		wantLevels(t, 3, level, "[0 1 0]")
		wantLevels(t, 4, level, "[0 1 1 0]")
	}
	wantLevels(t, 5, 1, "[0 1 1 1 0]")
	wantLevels(t, 5, 2, "[0 1 2 1 0]")
	wantLevels(t, 6, 2, "[0 1 2 2 1 0]")
	// One that is come to for one step, for two, and one that is not come to.
	wantLevels(t, 5, 3, "[0 1 2 1 0]")
	wantLevels(t, 6, 3, "[0 1 2 2 1 0]")
	wantLevels(t, 7, 3, "[0 1 2 3 2 1 0]")
	wantLevels(t, 7, 6, "[0 1 2 3 2 1 0]")
	wantLevels(t, 8, 4, "[0 1 2 3 3 2 1 0]")
	wantLevels(t, 8, 2, "[0 1 2 2 2 2 1 0]")
	wantLevels(t, 12, 6, "[0 1 2 3 4 5 5 4 3 2 1 0]")
	wantLevels(t, 13, 6, "[0 1 2 3 4 5 6 5 4 3 2 1 0]")
	wantLevels(t, 14, 6, "[0 1 2 3 4 5 6 6 5 4 3 2 1 0]")
	wantLevels(t, 39, 1, "[0"+strings.Repeat(" 1", 37)+" 0]")
	wantLevels(t, 40, 1, "[0"+strings.Repeat(" 1", 38)+" 0]")
	wantLevels(t, 40, 6, "[0 1 2 3 4 5"+strings.Repeat(" 6", 28)+" 5 4 3 2 1 0]")
}

// levelsByClimbing says what chapter 17 says of levels, in another way: nobody climbs or sinks by more than one a step.
func levelsByClimbing(steps, level int) []int {
	levels := slices.Repeat([]int{level}, steps)
	levels[0], levels[steps-1] = 0, 0
	for k := 1; k < steps; k++ {
		levels[k] = min(levels[k], levels[k-1]+1)
	}
	for k := steps - 2; k >= 0; k-- {
		levels[k] = min(levels[k], levels[k+1]+1)
	}
	return levels
}

func TestPlanLevelsOfEachNumber(t *testing.T) {
	numbers := append([]int{-41, -40, -7, -6, -2, -1}, farNumbers...)
	for n := range 45 {
		numbers = append(numbers, n)
	}
	numbers = append(numbers, 100, 256+3, math.MaxUint32+4)
	for _, steps := range numbers {
		for _, level := range numbers {
			got := impl.PlanLevels(steps, level)
			if steps < 1 || steps > 40 || level < 1 || level > 6 {
				if len(got) != 0 {
					t.Errorf("%v of %d steps and level %d", got, steps, level)
				}
				continue
			}
			if want := levelsByClimbing(steps, level); !slices.Equal(got, want) {
				t.Errorf("%v, not %v, of %d steps and level %d", got, want, steps, level)
			}
		}
	}
}

// somePathBases are bases to be asked about memory, ok and not ok, with the points a, b and c.
func somePathBases() []impl.PlanBase {
	bases := []impl.PlanBase{smallBase(), fullBase(), pointsBase(cell(0, 0), cell(15, 15), cell(0, 15)), {}}
	for _, b := range brokenBases() {
		bases = append(bases, b)
	}
	return bases
}

var someRoutes = [][]string{nil, {"a"}, {"a", "b"}, {"b", "a"}, {"a", "b", "c"}, {"a", "c", "a", "c", "a", "c", "a", "c"}, {"a", "b", "a", "b", "a", "b", "a", "b", "a"}, {"a", "a"}, {"a", "z"}, {"b", "fence"}, {"point-00", "point-15", "point-03"}}

func TestPlanCellsWriteNothing(t *testing.T) {
	for _, base := range somePathBases() {
		b := fenceBase(base)
		before := wholeBase(b)
		for _, route := range someRoutes {
			room := append(slices.Clone(route), "fence", "a", "fence")
			impl.PlanCells(b, room[:len(route)])
			if !slices.Equal(room, append(slices.Clone(route), "fence", "a", "fence")) {
				t.Errorf("%q: the route is written into: %q", route, room)
			}
		}
		if !reflect.DeepEqual(wholeBase(b), before) {
			t.Errorf("the base is written into: %+v", base)
		}
	}
}

func TestPlanCellsAreNewMemory(t *testing.T) {
	lists := 0
	for _, base := range somePathBases() {
		b := fenceBase(base)
		for _, route := range someRoutes {
			room := append(slices.Clone(route), "fence", "a", "fence")[:len(route)]
			first, _ := impl.PlanCells(b, room)
			second, _ := impl.PlanCells(b, room)
			lists += len(roomsOf(reflect.ValueOf(first), ""))
			want := fmt.Sprint(second)
			wantNewMemory(t, "PlanCells", []any{first, second}, b, room)
			fillList(first, impl.PlanCell{X: 99, Y: 99})
			if third, _ := impl.PlanCells(b, room); fmt.Sprint(second) != want || fmt.Sprint(third) != want {
				t.Errorf("%q: cells that were written over are those of another call", route)
			}
		}
	}
	if lists < 5 {
		t.Errorf("%d lists in all", lists)
	}
	for _, steps := range []int{1, 2, 3, 7, 39, 40} {
		first, second := impl.PlanLevels(steps, 3), impl.PlanLevels(steps, 3)
		wantNewMemory(t, "PlanLevels", []any{first, second})
		fillList(first, 99)
		if want := levelsByClimbing(steps, 3); !slices.Equal(second, want) || !slices.Equal(impl.PlanLevels(steps, 3), want) {
			t.Errorf("%d steps: levels that were written over are those of another call", steps)
		}
	}
}
