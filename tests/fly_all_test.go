package tests

import (
	"math/rand/v2"

	"loop.example/lapwing/impl"
)

// flightsByTrying is all flights that keep to a path, found by trying each tick of each window.
func flightsByTrying(p impl.FlyPath) [][]int {
	if !flyOkByRules(p) {
		return nil
	}
	froms, bys := flyWindowsOf(p)
	var all [][]int
	var try func(begun []int)
	try = func(begun []int) {
		k := len(begun)
		if k == len(froms) {
			all = append(all, append([]int{}, begun...))
			return
		}
		for tick := froms[k]; tick <= bys[k]; tick++ {
			if k == 0 || tick-begun[k-1] >= p.Kind.Quick && (tick-begun[k-1] <= p.Kind.Slow || p.Steps[k-1].Hold) {
				try(append(begun, tick))
			}
		}
	}
	try(nil)
	return all
}

// spansOfFlights is the least and the greatest tick at each place of some flights.
func spansOfFlights(all [][]int) []impl.FlySpan {
	var spans []impl.FlySpan
	for i, flight := range all {
		for k, tick := range flight {
			if i == 0 {
				spans = append(spans, impl.FlySpan{Low: tick, High: tick})
			}
			spans[k] = impl.FlySpan{Low: min(spans[k].Low, tick), High: max(spans[k].High, tick)}
		}
	}
	return spans
}

// spansByBounds says what chapter 24 says, in another way, also of long paths: each end of each window is felt at each
// place by itself, through all steps that lie between; the sharpest counts.
func spansByBounds(p impl.FlyPath) []impl.FlySpan {
	if !flyOkByRules(p) {
		return nil
	}
	froms, bys := flyWindowsOf(p)
	var spans []impl.FlySpan
	for k := range froms {
		s := impl.FlySpan{Low: 0, High: 10000}
		for j := range froms {
			quick, slow := longFor(p, min(j, k), max(j, k))
			if j <= k {
				s.Low, s.High = max(s.Low, froms[j]+quick), min(s.High, bys[j]+slow)
			} else {
				s.Low, s.High = max(s.Low, froms[j]-slow), min(s.High, bys[j]-quick)
			}
		}
		if s.Low > s.High {
			return nil
		}
		spans = append(spans, s)
	}
	return spans
}

// longFor is how many ticks at least and at most lie between two ticks of a flight along a path.
func longFor(p impl.FlyPath, from, to int) (quick, slow int) {
	for _, s := range p.Steps[from:to] {
		quick += p.Kind.Quick
		slow += p.Kind.Slow
		if s.Hold {
			slow += 1000000
		}
	}
	return quick, slow
}

// squeezed is a copy of a path on which the tick at a place is in a window more.
func squeezed(p impl.FlyPath, place, from, by int) impl.FlyPath {
	p = cloneFly(p)
	low, high := &p.From, &p.By
	if place < len(p.Steps) {
		low, high = &p.Steps[place].From, &p.Steps[place].By
	}
	*low, *high = max(*low, from), min(*high, by)
	return p
}

// someFlightOf is a flight along a path, the earliest one, if there is any.
func someFlightOf(p impl.FlyPath) []int {
	var flight []int
	for _, s := range spansByBounds(p) {
		flight = append(flight, s.Low)
	}
	return flight
}

// drawTightFly is a small path that is ok, and often has no flight, or few.
func drawTightFly(r *rand.Rand) impl.FlyPath {
	quick := 1 + r.IntN(4)
	p := impl.FlyPath{Kind: impl.FlyKind{Quick: quick, Slow: quick + []int{0, 0, 1, 2, 5}[r.IntN(5)]}, Steps: drawFlySteps(r, 1+r.IntN(5))}
	wide := []int{1, 3, 5, 8, 10}[r.IntN(5)]
	tick := []int{0, 5, 100, 9900, 9970, 9990}[r.IntN(6)]
	draw := func() (from, by int) {
		middle := tick + r.IntN(5) - 2
		tick += drawBetween(r, p.Kind.Quick, p.Kind.Slow) + r.IntN(12)/11*r.IntN(9)
		from = min(max(middle-r.IntN(wide), 0), 10000)
		return from, max(min(middle+r.IntN(wide), 10000), from)
	}
	for k := range p.Steps {
		p.Steps[k].From, p.Steps[k].By = draw()
	}
	p.From, p.By = draw()
	return p
}

// brokenFlies are paths that are not ok, each by one thing.
func brokenFlies() map[string]impl.FlyPath {
	paths := map[string]impl.FlyPath{
		"nothing":        {},
		"no steps":       {Kind: impl.FlyKind{Quick: 1, Slow: 2}, By: 100},
		"too many steps": straightFly(impl.FlyKind{Quick: 1, Slow: 2}, 41, 0, 10000),
	}
	broken := func(what string, change func(p *impl.FlyPath)) {
		p := smallFly()
		change(&p)
		paths[what] = p
	}
	broken("no kind", func(p *impl.FlyPath) { p.Kind = impl.FlyKind{} })
	broken("a kind too quick", func(p *impl.FlyPath) { p.Kind.Quick = 0 })
	broken("a kind too slow", func(p *impl.FlyPath) { p.Kind.Slow = 51 })
	broken("a kind turned round", func(p *impl.FlyPath) { p.Kind = impl.FlyKind{Quick: 3, Slow: 2} })
	broken("X outside", func(p *impl.FlyPath) { p.Steps[0].X = -1 })
	broken("Y outside", func(p *impl.FlyPath) { p.Steps[2].Y = 16 })
	broken("too low", func(p *impl.FlyPath) { p.Steps[0].Low = -1 })
	broken("too high", func(p *impl.FlyPath) { p.Steps[2].High = 7 })
	broken("levels turned round", func(p *impl.FlyPath) { p.Steps[1].Low = 3 })
	broken("a window too early", func(p *impl.FlyPath) { p.Steps[1].From = -1 })
	broken("a window too late", func(p *impl.FlyPath) { p.Steps[1].By = 10001 })
	broken("a window turned round", func(p *impl.FlyPath) { p.Steps[0].From = 21 })
	broken("its end too early", func(p *impl.FlyPath) { p.From = -1 })
	broken("its end too late", func(p *impl.FlyPath) { p.By = 10001 })
	broken("its end turned round", func(p *impl.FlyPath) { p.From = 66 })
	broken("the same cell twice", func(p *impl.FlyPath) { p.Steps[1].X = 3 })
	broken("two steps apart", func(p *impl.FlyPath) { p.Steps[2].X = 6 })
	broken("no level in common", func(p *impl.FlyPath) { p.Steps[0].High = 0 })
	return paths
}
