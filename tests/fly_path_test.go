package tests

import (
	"fmt"
	"math/rand/v2"
	"reflect"
	"slices"
	"testing"

	"loop.example/lapwing/impl"
)

// flyCase is a change of a path, and whether it is ok with it.
type flyCase struct {
	what   string
	ok     bool
	change func(p *impl.FlyPath)
}

func wantFlyOk(t *testing.T, what string, p impl.FlyPath, want bool) {
	t.Helper()
	if got := impl.FlyPathOk(p); got != want {
		t.Errorf("%s: FlyPathOk is %v of %+v", what, got, p)
	}
}

func wantFlies(t *testing.T, path func() impl.FlyPath, cases []flyCase) {
	t.Helper()
	wantFlyOk(t, "as it is", path(), true)
	for _, c := range cases {
		p := path()
		c.change(&p)
		wantFlyOk(t, c.what, p, c.ok)
	}
}

func TestFlyPathsOfLimits(t *testing.T) {
	wantFlyOk(t, "at each limit", fullFly(), true)
	wantFlyOk(t, "nothing", impl.FlyPath{}, false)
	wantFlyOk(t, "one step of nothing", impl.FlyPath{Kind: impl.FlyKind{Quick: 1, Slow: 1}, Steps: make([]impl.FlyStep, 1)}, true)
	wantFlyOk(t, "two steps of nothing", impl.FlyPath{Kind: impl.FlyKind{Quick: 1, Slow: 1}, Steps: make([]impl.FlyStep, 2)}, false)
}

func TestFlyPathsOfKinds(t *testing.T) {
	for _, n := range append([]int{-1, 0, 1, 2, 49, 50, 51}, farNumbers...) {
		for _, m := range append([]int{-1, 0, 1, 2, 49, 50, 51}, farNumbers...) {
			kind := impl.FlyKind{Quick: n, Slow: m}
			for _, p := range []impl.FlyPath{smallFly(), fullFly(), straightFly(kind, 1, 0, 0)} {
				p.Kind = kind
				wantFlyOk(t, "another kind", p, n >= 1 && n <= m && m <= 50)
			}
		}
	}
}

func TestFlyPathsOfSteps(t *testing.T) {
	kind := impl.FlyKind{Quick: 1, Slow: 1}
	for _, steps := range []int{0, 1, 2, 3, 39, 40, 41, 42, 80, 5000} {
		wantFlyOk(t, fmt.Sprint(steps, " steps"), straightFly(kind, steps, 0, 10000), steps >= 1 && steps <= 40)
	}
	p := fullFly()
	p.Steps = slices.Insert(p.Steps, 0, impl.FlyStep{X: 0, Y: 14, High: 6, By: 10000})
	wantFlyOk(t, "one ahead of forty", p, false)
	p.Steps = p.Steps[:40]
	wantFlyOk(t, "one ahead of thirty-nine", p, true)
	p.Steps = []impl.FlyStep{}
	wantFlyOk(t, "an empty list", p, false)
}

// flyNumber is one of the numbers of a path: its least and its greatest one, as long as all others leave it these.
type flyNumber struct {
	what        string
	least, most int
	of          func(p *impl.FlyPath) *int
}

// flyNumbersOf are those of the step at a place of a path that leaves each of them as much as there is.
func flyNumbersOf(place int) []flyNumber {
	return []flyNumber{
		{"X", 0, 15, func(p *impl.FlyPath) *int { return &p.Steps[place].X }},
		{"Y", 0, 15, func(p *impl.FlyPath) *int { return &p.Steps[place].Y }},
		{"Low", 0, 6, func(p *impl.FlyPath) *int { return &p.Steps[place].Low }},
		{"High", 0, 6, func(p *impl.FlyPath) *int { return &p.Steps[place].High }},
		{"From", 0, 10000, func(p *impl.FlyPath) *int { return &p.Steps[place].From }},
		{"By", 0, 10000, func(p *impl.FlyPath) *int { return &p.Steps[place].By }},
		{"From of the path", 0, 10000, func(p *impl.FlyPath) *int { return &p.From }},
		{"By of the path", 0, 10000, func(p *impl.FlyPath) *int { return &p.By }},
	}
}

// One step has no neighbours: each of its numbers may be anything from its least to its greatest one.
func TestFlyPathsOfOneStep(t *testing.T) {
	for _, n := range flyNumbersOf(0) {
		for _, value := range append([]int{n.least - 2, n.least - 1, n.least, n.least + 1, n.most / 2, n.most - 1, n.most, n.most + 1, n.most + 2}, farNumbers...) {
			p := impl.FlyPath{Kind: impl.FlyKind{Quick: 1, Slow: 2}, Steps: []impl.FlyStep{{X: 3, Y: 3, Low: 0, High: 6, From: 0, By: 10000}}, By: 10000}
			*n.of(&p) = value
			wantFlyOk(t, fmt.Sprint(n.what, " is ", value), p, value >= n.least && value <= n.most)
		}
	}
}

// Low and High, From and By, the path's own as well, may be the same, but not the other way round.
func TestFlyPathsTurnedRound(t *testing.T) {
	for low := -1; low <= 7; low++ {
		for high := -1; high <= 7; high++ {
			p := smallFly()
			p.Steps = p.Steps[:1]
			p.Steps[0].Low, p.Steps[0].High = low, high
			wantFlyOk(t, "levels", p, 0 <= low && low <= high && high <= 6)
		}
	}
	ticks := append([]int{-1, 0, 1, 2, 5000, 9999, 10000, 10001}, farNumbers...)
	for _, from := range ticks {
		for _, by := range ticks {
			want := from >= 0 && by >= from && by <= 10000
			for place := range 4 {
				p := smallFly()
				if place == 3 {
					p.From, p.By = from, by
				} else {
					p.Steps[place].From, p.Steps[place].By = from, by
				}
				wantFlyOk(t, fmt.Sprint("the window at ", place), p, want)
			}
		}
	}
}

// Each number of each step is asked about, of the first, of one in between and of the last.
func TestFlyPathsOfEachStep(t *testing.T) {
	numbers := 0
	for _, far := range append([]int{-1, 10001}, farNumbers...) {
		for _, path := range []impl.FlyPath{smallFly(), fullFly()} {
			p := cloneFly(path)
			eachInt(reflect.ValueOf(&p).Elem(), "path", func(what string, v reflect.Value) {
				old := v.Int()
				v.SetInt(int64(far))
				wantFlyOk(t, what, p, false)
				v.SetInt(old)
				numbers++
			})
			wantFlyOk(t, "as it was", p, true)
		}
	}
	if numbers < 12*(4+6*3+4+6*40) {
		t.Errorf("%d numbers in all", numbers)
	}
	// At the limits, where the step next to it allows them.
	for place := range 40 {
		for _, c := range []flyCase{
			{"X -1", false, func(p *impl.FlyPath) { p.Steps[place].X = -1 }},
			{"X 16", false, func(p *impl.FlyPath) { p.Steps[place].X = 16 }},
			{"Y -1", false, func(p *impl.FlyPath) { p.Steps[place].Y = -1 }},
			{"Y 16", false, func(p *impl.FlyPath) { p.Steps[place].Y = 16 }},
			{"Low -1", false, func(p *impl.FlyPath) { p.Steps[place].Low = -1 }},
			{"Low 6", true, func(p *impl.FlyPath) { p.Steps[place].Low = 6 }},
			{"Low above High", false, func(p *impl.FlyPath) { p.Steps[place].Low, p.Steps[place].High = 4, 3 }},
			{"High 0", true, func(p *impl.FlyPath) { p.Steps[place].High = 0 }},
			{"High 7", false, func(p *impl.FlyPath) { p.Steps[place].High = 7 }},
			{"From 10000", true, func(p *impl.FlyPath) { p.Steps[place].From = 10000 }},
			{"From above By", false, func(p *impl.FlyPath) { p.Steps[place].From, p.Steps[place].By = 10, 9 }},
			{"By 0", true, func(p *impl.FlyPath) { p.Steps[place].By = 0 }},
			{"By 10001", false, func(p *impl.FlyPath) { p.Steps[place].By = 10001 }},
			{"Hold", true, func(p *impl.FlyPath) { p.Steps[place].Hold = !p.Steps[place].Hold }},
		} {
			p := fullFly()
			c.change(&p)
			wantFlyOk(t, fmt.Sprint(c.what, " at ", place), p, c.ok)
		}
	}
}

// twoFly is a path of two steps, the second one so far from the first, between two others.
func twoFly(dx, dy int) impl.FlyPath {
	p := straightFly(impl.FlyKind{Quick: 1, Slow: 9}, 2, 0, 100)
	p.Steps[0].X, p.Steps[0].Y = 7, 7
	p.Steps[1].X, p.Steps[1].Y = 7+dx, 7+dy
	return p
}

func TestFlyPathsOfNeighbours(t *testing.T) {
	next := 0
	for dx := -7; dx <= 8; dx++ {
		for dy := -7; dy <= 8; dy++ {
			want := dx*dx+dy*dy == 1 || dx*dx+dy*dy == 2
			wantFlyOk(t, fmt.Sprint(dx, " and ", dy, " apart"), twoFly(dx, dy), want)
			if want {
				next++
			}
		}
	}
	if next != 8 {
		t.Errorf("%d neighbours", next)
	}
	wantFlies(t, smallFly, []flyCase{
		{"the second one in the cell of the first", false, func(p *impl.FlyPath) { p.Steps[1].X, p.Steps[1].Y = 3, 4 }},
		{"the third one in the cell of the second", false, func(p *impl.FlyPath) { p.Steps[2].X, p.Steps[2].Y = 4, 4 }},
		{"the third one in the cell of the first", true, func(p *impl.FlyPath) { p.Steps[2].X, p.Steps[2].Y = 3, 4 }},
		{"the second one next to the first only", false, func(p *impl.FlyPath) { p.Steps[1].X, p.Steps[1].Y = 2, 4 }},
		{"the second one next to the third only", false, func(p *impl.FlyPath) { p.Steps[1].X, p.Steps[1].Y = 6, 5 }},
		{"the third one two apart in X", false, func(p *impl.FlyPath) { p.Steps[2].X = 6 }},
		{"the third one two apart in Y", false, func(p *impl.FlyPath) { p.Steps[2].Y = 6 }},
		{"the third one two apart in both", false, func(p *impl.FlyPath) { p.Steps[2].X, p.Steps[2].Y = 6, 6 }},
		{"the third one two apart, the other way", false, func(p *impl.FlyPath) { p.Steps[2].X, p.Steps[2].Y = 2, 2 }},
	})
	// At all ends of the field: from a corner to what is next to it within.
	for _, x := range []int{0, 15} {
		for _, y := range []int{0, 15} {
			for _, c := range roundOf(x, y) {
				p := twoFly(0, 0)
				p.Steps[0].X, p.Steps[0].Y, p.Steps[1].X, p.Steps[1].Y = x, y, c[0], c[1]
				wantFlyOk(t, "from a corner", p, min(c[0], c[1]) >= 0 && max(c[0], c[1]) <= 15)
			}
		}
	}
}

// The two need a level in common; one is enough, at either end.
func TestFlyPathsOfLevels(t *testing.T) {
	common := 0
	for low := range 7 {
		for high := low; high < 7; high++ {
			for otherLow := range 7 {
				for otherHigh := otherLow; otherHigh < 7; otherHigh++ {
					p := twoFly(1, 0)
					p.Steps[0].Low, p.Steps[0].High, p.Steps[1].Low, p.Steps[1].High = low, high, otherLow, otherHigh
					want := flyOneOnByRules(p.Steps[0], p.Steps[1])
					wantFlyOk(t, "levels", p, want)
					if want {
						common++
					}
				}
			}
		}
	}
	if common < 400 || common > 28*28-100 {
		t.Errorf("%d with a level in common", common)
	}
	wantFlies(t, smallFly, []flyCase{
		{"the first ends where the second begins", true, func(p *impl.FlyPath) { p.Steps[0].Low = 1 }},
		{"the first ends below the second", false, func(p *impl.FlyPath) { p.Steps[0].High = 0 }},
		{"the first begins where the second ends", true, func(p *impl.FlyPath) { p.Steps[0].Low, p.Steps[0].High = 2, 6 }},
		{"the first begins above the second", false, func(p *impl.FlyPath) { p.Steps[0].Low, p.Steps[0].High = 3, 6 }},
		{"the third begins above the second", false, func(p *impl.FlyPath) { p.Steps[2].Low, p.Steps[2].High = 3, 3 }},
		{"the third ends below the second", false, func(p *impl.FlyPath) { p.Steps[2].Low, p.Steps[2].High = 0, 0 }},
		{"the third ends where the second begins", true, func(p *impl.FlyPath) { p.Steps[2].Low, p.Steps[2].High = 0, 1 }},
		{"the first and the third have none in common", true, func(p *impl.FlyPath) { p.Steps[0].High = 1 }},
	})
}

// A path may come back, and there need not be a flight along it.
func TestFlyPathsThatAreOkAllTheSame(t *testing.T) {
	wantFlies(t, smallFly, []flyCase{
		{"back to where it began", true, func(p *impl.FlyPath) { p.Steps[2] = p.Steps[0]; p.Steps[2].Low, p.Steps[2].High = 1, 1 }},
		{"there and back again and again", true, func(p *impl.FlyPath) {
			p.Steps = []impl.FlyStep{p.Steps[0], p.Steps[1], p.Steps[0], p.Steps[1], p.Steps[0], p.Steps[1]}
		}},
		{"later steps have earlier windows", true, func(p *impl.FlyPath) { p.Steps[0].From, p.Steps[0].By = 9000, 10000 }},
		{"left ahead of being entered", true, func(p *impl.FlyPath) { p.From, p.By = 0, 0 }},
		{"all windows at tick 0", true, func(p *impl.FlyPath) { *p = straightFly(p.Kind, 40, 0, 0) }},
		{"windows too far apart", true, func(p *impl.FlyPath) { p.Steps[2].From, p.Steps[2].By, p.From, p.By = 500, 600, 9000, 9000 }},
		{"no step may be stayed in", true, func(p *impl.FlyPath) { p.Steps[1].Hold = false }},
		{"all steps may be stayed in", true, func(p *impl.FlyPath) { p.Steps[0].Hold, p.Steps[2].Hold = true, true }},
	})
}

// Hold makes no path ok, or not ok.
func TestFlyPathsOfHold(t *testing.T) {
	r := rand.New(rand.NewPCG(22, 1))
	count := map[bool]int{}
	for range 3000 {
		p, _ := drawFly(r)
		if r.IntN(2) == 0 {
			bendFly(r, &p)
		}
		before := impl.FlyPathOk(p)
		count[before]++
		for k := range p.Steps {
			p.Steps[k].Hold = r.IntN(2) == 0
		}
		wantFlyOk(t, "with and without Hold", p, before)
	}
	if count[true] < 500 || count[false] < 500 {
		t.Errorf("too few of one kind: %v", count)
	}
}

func TestFlyPathsAtRandom(t *testing.T) {
	r := rand.New(rand.NewPCG(22, 2))
	count := map[bool]int{}
	for range 2000 {
		p, _ := drawFly(r)
		wantFlyOk(t, "made to be ok", p, true)
		for range 3 {
			bendFly(r, &p)
			want := flyOkByRules(p)
			count[want]++
			wantFlyOk(t, "bent", p, want)
		}
	}
	if count[true] < 1000 || count[false] < 1000 {
		t.Errorf("too few of one kind: %v", count)
	}
}
