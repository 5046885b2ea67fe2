package tests

import (
	"fmt"
	"math"
	"math/rand/v2"
	"reflect"
	"slices"
	"testing"

	"loop.example/lapwing/impl"
)

func wantLawful(t *testing.T, what string, p impl.FlyPath, flight []int, want bool) {
	t.Helper()
	if got := impl.FlyLawful(p, flight); got != want {
		t.Errorf("%s: FlyLawful is %v of %v along %+v", what, got, flight, p)
	}
}

func TestLawfulByHand(t *testing.T) {
	for _, c := range []struct {
		what   string
		flight []int
		want   bool
	}{
		{"in the middle", []int{12, 15, 18, 21}, true},
		{"as early as can be", []int{10, 12, 14, 16}, true},
		{"as late as can be", []int{20, 25, 60, 65}, true},
		{"one tick too early at first", []int{9, 12, 14, 16}, false},
		{"one tick too late at first", []int{21, 23, 26, 29}, false},
		{"one tick too early in the second", []int{10, 11, 14, 16}, false},
		{"one tick too late in the second", []int{20, 26, 28, 30}, false},
		{"one tick too early in the third", []int{10, 12, 13, 16}, false},
		{"one tick too late in the third", []int{20, 25, 61, 65}, false},
		{"one tick too early at its end", []int{10, 12, 14, 15}, false},
		{"one tick too late at its end", []int{20, 25, 60, 66}, false},
		{"too short in the first", []int{12, 13, 16, 18}, false},
		{"too long in the first", []int{12, 18, 20, 22}, false},
		{"as long as may be in the first", []int{12, 17, 20, 22}, true},
		{"too short in the second", []int{12, 15, 16, 18}, false},
		{"very long in the second", []int{12, 15, 60, 62}, true},
		{"too short in the third", []int{12, 15, 18, 19}, false},
		{"too long in the third", []int{12, 15, 18, 24}, false},
		{"as long as may be in the third", []int{12, 15, 18, 23}, true},
		{"it stands still", []int{16, 16, 16, 16}, false},
		{"it stands still in the second", []int{14, 16, 16, 18}, false},
		{"it falls in the second", []int{14, 18, 16, 18}, false},
	} {
		wantLawful(t, c.what, smallFly(), c.flight, c.want)
	}
}

func TestLawfulOfPathsThatAreNotOk(t *testing.T) {
	flight := []int{12, 15, 18, 21}
	wantLawful(t, "as it is", smallFly(), flight, true)
	for what, change := range map[string]func(p *impl.FlyPath){
		"no kind":             func(p *impl.FlyPath) { p.Kind = impl.FlyKind{} },
		"a kind too quick":    func(p *impl.FlyPath) { p.Kind.Quick = 0 },
		"a kind too slow":     func(p *impl.FlyPath) { p.Kind.Slow = 51 },
		"a kind turned round": func(p *impl.FlyPath) { p.Kind = impl.FlyKind{Quick: 3, Slow: 2} },
		"X outside":           func(p *impl.FlyPath) { p.Steps[0].X = -1 },
		"too high":            func(p *impl.FlyPath) { p.Steps[2].High = 7 },
		"too low":             func(p *impl.FlyPath) { p.Steps[0].Low = -1 },
		"a window too early":  func(p *impl.FlyPath) { p.Steps[1].From = -1 },
		"a window too late":   func(p *impl.FlyPath) { p.Steps[1].By = 10001 },
		"its end too early":   func(p *impl.FlyPath) { p.From = -1 },
		"its end too late":    func(p *impl.FlyPath) { p.By = 10001 },
		"two steps apart":     func(p *impl.FlyPath) { p.Steps[2].X = 6 },
		"no level in common":  func(p *impl.FlyPath) { p.Steps[0].High = 0 },
		"the same cell twice": func(p *impl.FlyPath) { p.Steps[1].X = 3 },
	} {
		p := smallFly()
		change(&p)
		wantLawful(t, what, p, flight, false)
	}
	for _, flight := range [][]int{nil, {}, {0}, {0, 1}} {
		wantLawful(t, "no steps", impl.FlyPath{Kind: impl.FlyKind{Quick: 1, Slow: 2}, By: 100}, flight, false)
		wantLawful(t, "nothing", impl.FlyPath{}, flight, false)
	}
	// Forty-one steps, whatever is flown.
	long := straightFly(impl.FlyKind{Quick: 1, Slow: 2}, 41, 0, 100)
	var all []int
	for tick := range 42 {
		all = append(all, tick)
	}
	wantLawful(t, "too many steps", long, all, false)
	long.Steps = long.Steps[:40]
	wantLawful(t, "forty steps", long, all[:41], true)
}

func TestLawfulOfListsOfOtherSizes(t *testing.T) {
	for steps := 1; steps <= 40; steps++ {
		p := straightFly(impl.FlyKind{Quick: 2, Slow: 3}, steps, 0, 1000)
		var all []int
		for tick := range 50 {
			all = append(all, 2*tick)
		}
		for size := range all {
			wantLawful(t, fmt.Sprint(size, " ticks, ", steps, " steps"), p, all[:size], size == steps+1)
		}
		wantLawful(t, "no list", p, nil, false)
		wantLawful(t, "very many", p, make([]int, 5000), false)
	}
}

// Each tick may be at both ends of its window, and not one past them; the last one's window is the path's own.
func TestLawfulAtTheEndsOfWindows(t *testing.T) {
	kind := impl.FlyKind{Quick: 10, Slow: 50}
	for steps := 1; steps <= 9; steps++ {
		for place := range steps + 1 {
			p := straightFly(kind, steps, 0, 1000)
			var flight []int
			for k := range steps + 1 {
				flight = append(flight, 100+30*k)
			}
			set := func(from, by int) {
				p.From, p.By = 0, 1000
				if place == steps {
					p.From, p.By = from, by
				} else {
					p.Steps[place].From, p.Steps[place].By = from, by
				}
			}
			tick := flight[place]
			for _, c := range []struct {
				from, by int
				want     bool
			}{
				{tick, tick, true}, {tick, 1000, true}, {0, tick, true}, {tick - 1, tick + 1, true},
				{tick + 1, 1000, false}, {tick + 1, tick + 1, false}, {0, tick - 1, false}, {tick - 1, tick - 1, false}, {0, 0, false}, {1000, 1000, false},
			} {
				set(c.from, c.by)
				wantLawful(t, fmt.Sprint("window ", c.from, " to ", c.by, " at ", place), p, flight, c.want)
			}
		}
	}
	// From 0 on, and up to the last tick there is.
	p := straightFly(impl.FlyKind{Quick: 1, Slow: 50}, 2, 0, 10000)
	p.Steps[0].Hold = true
	wantLawful(t, "from the first tick to the last", p, []int{0, 9950, 10000}, true)
	wantLawful(t, "behind the last tick", p, []int{0, 9951, 10001}, false)
	wantLawful(t, "ahead of the first tick", p, []int{-1, 9950, 10000}, false)
}

// Stays of Quick less one, Quick, Slow, and Slow and one more, with Hold and without, in each step of several.
func TestLawfulStays(t *testing.T) {
	kinds := []impl.FlyKind{{Quick: 1, Slow: 1}, {Quick: 1, Slow: 2}, {Quick: 1, Slow: 50}, {Quick: 3, Slow: 3}, {Quick: 3, Slow: 7}, {Quick: 49, Slow: 50}, {Quick: 50, Slow: 50}}
	for _, kind := range kinds {
		for _, steps := range []int{1, 2, 3, 40} {
			for place := range steps {
				for _, hold := range []bool{false, true} {
					p := straightFly(kind, steps, 0, 10000)
					p.Steps[place].Hold = hold
					for _, stay := range []int{-1, 0, 1, kind.Quick - 1, kind.Quick, (kind.Quick + kind.Slow) / 2, kind.Slow, kind.Slow + 1, kind.Slow + 2, 100, 5000} {
						var flight []int
						tick := 100
						for k := range steps {
							flight = append(flight, tick)
							tick += kind.Quick
							if k == place {
								tick += stay - kind.Quick
							}
						}
						flight = append(flight, tick)
						want := stay >= kind.Quick && (hold || stay <= kind.Slow)
						wantLawful(t, fmt.Sprint("a stay of ", stay, " at ", place, ", Hold ", hold), p, flight, want)
					}
				}
			}
		}
	}
}

// Only the step that is entered with the first of two ticks asks for Hold.
func TestLawfulHoldOfOtherSteps(t *testing.T) {
	for held := range 4 {
		for stayed := range 4 {
			p := straightFly(impl.FlyKind{Quick: 2, Slow: 3}, 4, 0, 500)
			p.Steps[held].Hold = true
			flight := []int{0, 2, 4, 6, 8}
			for k := stayed + 1; k < 5; k++ {
				flight[k] += 90
			}
			wantLawful(t, fmt.Sprint("Hold at ", held, ", stayed at ", stayed), p, flight, held == stayed)
		}
	}
}

func TestLawfulHoldOfTheLastStep(t *testing.T) {
	p := smallFly()
	p.Steps[2].Hold = true
	wantLawful(t, "as long as the path has it", p, []int{12, 15, 18, 65}, true)
	wantLawful(t, "one tick more", p, []int{12, 15, 18, 66}, false)
	wantLawful(t, "too short all the same", p, []int{12, 15, 18, 19}, false)
	p.By = 10000
	wantLawful(t, "up to the last tick", p, []int{12, 15, 18, 10000}, true)
	p.Steps[2].Hold = false
	wantLawful(t, "without Hold", p, []int{12, 15, 18, 10000}, false)
}

func TestLawfulOfOneStep(t *testing.T) {
	p := impl.FlyPath{Kind: impl.FlyKind{Quick: 4, Slow: 6}, Steps: []impl.FlyStep{{X: 15, Y: 15, Low: 6, High: 6, From: 10, By: 12}}, From: 15, By: 17}
	lawful := 0
	for first := 8; first <= 14; first++ {
		for last := 12; last <= 20; last++ {
			want := first >= 10 && first <= 12 && last >= 15 && last <= 17 && last-first >= 4 && last-first <= 6
			wantLawful(t, "one step", p, []int{first, last}, want)
			if want {
				lawful++
			}
		}
	}
	// 10 to 15 or 16; 11 to 15, 16 or 17; 12 to 16 or 17.
	if lawful != 7 {
		t.Errorf("%d flights", lawful)
	}
}

func TestLawfulOfTicksFarAway(t *testing.T) {
	for _, path := range []impl.FlyPath{smallFly(), fullFly(), straightFly(impl.FlyKind{Quick: 1, Slow: 50}, 3, 0, 10000)} {
		for hold := range 2 {
			p := cloneFly(path)
			flight := []int{}
			for k := range p.Steps {
				p.Steps[k].Hold = hold == 1
				flight = append(flight, 12+3*k)
			}
			flight = append(flight, 12+3*len(p.Steps))
			for _, far := range append([]int{-1, -50, 10001, 20000}, farNumbers...) {
				for place := range flight {
					bent := slices.Clone(flight)
					bent[place] = far
					wantLawful(t, "one tick far away", p, bent, false)
					for later := place; later < len(flight); later++ {
						bent[later] = far
					}
					wantLawful(t, "all ticks from one on far away", p, bent, false)
				}
			}
		}
	}
	// Differences of these wrap round, and would come to a stay that may be.
	p := straightFly(impl.FlyKind{Quick: 1, Slow: 1}, 1, 0, 10000)
	wantLawful(t, "from the end of int to its beginning", p, []int{math.MaxInt, math.MinInt}, false)
	p.Steps[0].Hold = true
	wantLawful(t, "from below 0", p, []int{math.MinInt, 0}, false)
}

// Flights that keep to their path, and such as were bent a little, are held against a clock.
func TestLawfulAtRandom(t *testing.T) {
	r := rand.New(rand.NewPCG(23, 1))
	count := map[bool]int{}
	for range 5000 {
		p, flight := drawFly(r)
		wantLawful(t, "made to keep to it", p, flight, true)
		for range 4 {
			bent := bendFlight(r, p, flight)
			want := lawfulByClock(p, bent)
			count[want]++
			wantLawful(t, "bent", p, bent, want)
			if r.IntN(3) == 0 {
				flight = bent
			}
		}
		bendFly(r, &p)
		wantLawful(t, "along a bent path", p, flight, lawfulByClock(p, flight))
	}
	if count[true] < 1000 || count[false] < 1000 {
		t.Errorf("too few of one kind: %v", count)
	}
}

func wantWhereOf(t *testing.T, flight []int, tick, want int, wantOk bool) {
	t.Helper()
	if place, ok := impl.FlyWhere(flight, tick); place != want || ok != wantOk {
		t.Errorf("at %d of %v: %d, %v, not %d, %v", tick, flight, place, ok, want, wantOk)
	}
}

// whereByAll says what chapter 23 says of a tick, in another way: all places that fit are gathered, the least is taken.
func whereByAll(flight []int, tick int) (int, bool) {
	var fit []int
	for k := len(flight) - 2; k >= 0; k-- {
		if slices.Max([]int{flight[k], tick}) == tick && slices.Min([]int{flight[k+1], tick}) == tick && flight[k+1] != tick {
			fit = append(fit, k)
		}
	}
	if len(fit) == 0 {
		return 0, false
	}
	return slices.Min(fit), true
}

func TestWhereOfFewTicks(t *testing.T) {
	for _, tick := range append([]int{-1, 0, 1, 7}, farNumbers...) {
		wantWhereOf(t, nil, tick, 0, false)
		wantWhereOf(t, []int{}, tick, 0, false)
		for _, only := range append([]int{-1, 0, 1, 7}, farNumbers...) {
			wantWhereOf(t, []int{only}, tick, 0, false)
			wantWhereOf(t, []int{only, only}, tick, 0, false)
		}
	}
}

func TestWhereByHand(t *testing.T) {
	rising := []int{5, 7, 8, 20}
	for _, c := range []struct {
		tick, want int
		ok         bool
	}{
		{-1, 0, false}, {0, 0, false}, {4, 0, false}, {5, 0, true}, {6, 0, true}, {7, 1, true}, {8, 2, true}, {9, 2, true}, {19, 2, true}, {20, 0, false}, {21, 0, false}, {10000, 0, false},
	} {
		wantWhereOf(t, rising, c.tick, c.want, c.ok)
	}
	// No tick is in a step in which it stands still.
	still := []int{3, 3, 5, 5, 5, 6}
	for _, c := range []struct {
		tick, want int
		ok         bool
	}{
		{2, 0, false}, {3, 1, true}, {4, 1, true}, {5, 4, true}, {6, 0, false},
	} {
		wantWhereOf(t, still, c.tick, c.want, c.ok)
	}
	// A tick is in no step that falls, and of several that rise over it in the first.
	falling := []int{9, 4, 8, 2, 10, 1, 12}
	for _, c := range []struct {
		tick, want int
		ok         bool
	}{
		{0, 0, false}, {1, 5, true}, {2, 3, true}, {3, 3, true}, {4, 1, true}, {7, 1, true}, {8, 3, true}, {9, 3, true}, {10, 5, true}, {11, 5, true}, {12, 0, false},
	} {
		wantWhereOf(t, falling, c.tick, c.want, c.ok)
	}
	for tick := range 30 {
		wantWhereOf(t, []int{20, 15, 10, 5, 0}, tick, 0, false)
	}
	wantWhereOf(t, []int{-9, -5, 0}, -9, 0, true)
	wantWhereOf(t, []int{-9, -5, 0}, -5, 1, true)
	wantWhereOf(t, []int{-9, -5, 0}, -1, 1, true)
	wantWhereOf(t, []int{-9, -5, 0}, 0, 0, false)
}

func TestWhereAtTheEndsOfInt(t *testing.T) {
	least, most := math.MinInt, math.MaxInt
	wantWhereOf(t, []int{least, most}, least, 0, true)
	wantWhereOf(t, []int{least, most}, 0, 0, true)
	wantWhereOf(t, []int{least, most}, most-1, 0, true)
	wantWhereOf(t, []int{least, most}, most, 0, false)
	wantWhereOf(t, []int{most, least}, most, 0, false)
	wantWhereOf(t, []int{most, least}, least, 0, false)
	wantWhereOf(t, []int{most, least}, 0, 0, false)
	wantWhereOf(t, []int{least, least + 1, most - 1, most}, least, 0, true)
	wantWhereOf(t, []int{least, least + 1, most - 1, most}, least+1, 1, true)
	wantWhereOf(t, []int{least, least + 1, most - 1, most}, most-1, 2, true)
	wantWhereOf(t, []int{least, least + 1, most - 1, most}, most, 0, false)
	for _, a := range farNumbers {
		for _, b := range farNumbers {
			for _, tick := range farNumbers {
				place, ok := whereByAll([]int{a, b, a}, tick)
				wantWhereOf(t, []int{a, b, a}, tick, place, ok)
			}
		}
	}
}

func TestWhereOfVeryMany(t *testing.T) {
	flight := make([]int, 100000)
	wantWhereOf(t, flight, 0, 0, false)
	flight[99999] = 1
	wantWhereOf(t, flight, 0, 99998, true)
	wantWhereOf(t, flight, 1, 0, false)
}

func TestWhereAtRandom(t *testing.T) {
	r := rand.New(rand.NewPCG(23, 2))
	count := map[bool]int{}
	for range 3000 {
		flight := make([]int, r.IntN(8))
		for k := range flight {
			flight[k] = r.IntN(12) - 2
		}
		if r.IntN(3) == 0 {
			slices.Sort(flight)
		}
		for tick := -4; tick <= 12; tick++ {
			place, ok := whereByAll(flight, tick)
			count[ok]++
			wantWhereOf(t, flight, tick, place, ok)
		}
	}
	if count[true] < 5000 || count[false] < 5000 {
		t.Errorf("too few of one kind: %v", count)
	}
}

// At each tick from its first to the one ahead of its last a flight that keeps to its path is in just one step.
func TestWhereOfFlightsThatKeepToTheirPath(t *testing.T) {
	r := rand.New(rand.NewPCG(23, 3))
	ticks := 0
	for range 1000 {
		_, flight := drawFly(r)
		wantWhereOf(t, flight, flight[0]-1, 0, false)
		wantWhereOf(t, flight, flight[len(flight)-1], 0, false)
		for k, entered := range flight[:len(flight)-1] {
			for tick := entered; tick < flight[k+1]; tick++ {
				wantWhereOf(t, flight, tick, k, true)
				ticks++
			}
		}
	}
	if ticks < 20000 {
		t.Errorf("%d ticks in all", ticks)
	}
}

// someFlights are ticks to be asked about memory.
func someFlights() [][]int {
	return [][]int{nil, {}, {5}, {10, 12, 14, 16}, {20, 25, 60, 65}, {9, 12, 14, 16}, {math.MinInt, 0, math.MaxInt}, {16, 14, 12, 10}, make([]int, 41), make([]int, 60)}
}

func TestFlightsAndPathsAreNotWrittenInto(t *testing.T) {
	bad := smallFly()
	bad.Steps[1].High = 7
	for _, path := range []impl.FlyPath{{}, smallFly(), fullFly(), bad, straightFly(impl.FlyKind{Quick: 1, Slow: 1}, 41, 0, 50)} {
		p := fenceFly(path)
		before := wholeFly(p)
		for _, list := range someFlights() {
			flight := fenceTicks(list)
			flightBefore := wholeTicks(flight)
			first := impl.FlyPathOk(p)
			lawful := impl.FlyLawful(p, flight)
			for tick := -1; tick < 70; tick++ {
				impl.FlyWhere(flight, tick)
			}
			if !slices.Equal(wholeTicks(flight), flightBefore) {
				t.Errorf("written into %v", list)
			}
			if impl.FlyPathOk(p) != first || impl.FlyLawful(p, flight) != lawful {
				t.Errorf("another answer the second time, of %v along %+v", list, path)
			}
		}
		if !reflect.DeepEqual(wholeFly(p), before) {
			t.Errorf("written into: %+v", path)
		}
	}
}
