package tests

import (
	"math/rand/v2"
	"slices"

	"loop.example/lapwing/impl"
)

// smallFly is a path that is ok; its second step may be stayed in.
func smallFly() impl.FlyPath {
	return impl.FlyPath{
		Kind: impl.FlyKind{Quick: 2, Slow: 5},
		Steps: []impl.FlyStep{
			{X: 3, Y: 4, Low: 0, High: 1, From: 10, By: 20},
			{X: 4, Y: 4, Low: 1, High: 2, From: 12, By: 25, Hold: true},
			{X: 5, Y: 5, Low: 2, High: 2, From: 14, By: 60},
		},
		From: 16, By: 65,
	}
}

// fullFly is a path that is ok and meets every limit.
func fullFly() impl.FlyPath {
	p := impl.FlyPath{Kind: impl.FlyKind{Quick: 50, Slow: 50}, From: 0, By: 10000}
	for k := range 40 {
		s := impl.FlyStep{X: k, Y: 15, Low: 0, High: 6, From: 0, By: 10000}
		if k > 15 {
			s.X, s.Y = 15, 30-k
		}
		if k > 30 {
			s.X, s.Y = 45-k, 0
		}
		p.Steps = append(p.Steps, s)
	}
	return p
}

// straightFly is a path of so many steps along one row, on the ground, with the same window for each tick.
func straightFly(kind impl.FlyKind, steps, from, by int) impl.FlyPath {
	p := impl.FlyPath{Kind: kind, From: from, By: by}
	for k := range steps {
		p.Steps = append(p.Steps, impl.FlyStep{X: k % 2, Y: 7, From: from, By: by})
	}
	return p
}

// cloneFly is a copy that shares nothing with the path.
func cloneFly(p impl.FlyPath) impl.FlyPath {
	p.Steps = cloneList(p.Steps)
	return p
}

// fenceFly is a copy of a path with something behind the end of its list.
func fenceFly(p impl.FlyPath) impl.FlyPath {
	p = cloneFly(p)
	p.Steps = append(p.Steps, impl.FlyStep{X: 77})[:len(p.Steps)]
	return p
}

// wholeFly is a copy of a path with its list up to the end of its room.
func wholeFly(p impl.FlyPath) impl.FlyPath {
	p.Steps = cloneList(p.Steps[:cap(p.Steps)])
	return p
}

// fenceTicks is a copy of a list of ticks with something behind its end.
func fenceTicks(ticks []int) []int {
	return append(slices.Clone(ticks), 77)[:len(ticks)]
}

// wholeTicks is a copy of a list of ticks up to the end of its room.
func wholeTicks(ticks []int) []int {
	return slices.Clone(ticks[:cap(ticks)])
}

// roundOf are the cells next to one, those outside as well.
func roundOf(x, y int) [][2]int {
	return [][2]int{{x - 1, y - 1}, {x, y - 1}, {x + 1, y - 1}, {x - 1, y}, {x + 1, y}, {x - 1, y + 1}, {x, y + 1}, {x + 1, y + 1}}
}

func drawFlyKind(r *rand.Rand) impl.FlyKind {
	slow := 1 + r.IntN(6)
	if r.IntN(5) == 0 {
		slow = 1 + r.IntN(50)
	}
	return impl.FlyKind{Quick: drawBetween(r, 1, slow), Slow: slow}
}

// drawFlySteps is so many steps without windows, each next to the one ahead of it and on a level that it has.
func drawFlySteps(r *rand.Rand, count int) []impl.FlyStep {
	s := impl.FlyStep{X: r.IntN(16), Y: r.IntN(16), Low: r.IntN(7)}
	s.High = drawBetween(r, s.Low, 6)
	list := []impl.FlyStep{s}
	for len(list) < count {
		c := roundOf(s.X, s.Y)[r.IntN(8)]
		if min(c[0], c[1]) < 0 || max(c[0], c[1]) > 15 {
			continue
		}
		level := drawBetween(r, s.Low, s.High)
		s = impl.FlyStep{X: c[0], Y: c[1], Low: drawBetween(r, 0, level), High: drawBetween(r, level, 6), Hold: r.IntN(4) == 0}
		list = append(list, s)
	}
	list[0].Hold = r.IntN(4) == 0
	return list
}

// drawWindow is a window round a tick, often a small one, at times a very great one.
func drawWindow(r *rand.Rand, tick int) (from, by int) {
	wide := []int{0, 1, 3, 8, 30, 10000}
	from = tick - r.IntN(1+wide[r.IntN(len(wide))])
	by = tick + r.IntN(1+wide[r.IntN(len(wide))])
	return max(from, 0), min(by, 10000)
}

// drawFly is a path that is ok, made at random round a flight that keeps to it, and this flight.
func drawFly(r *rand.Rand) (impl.FlyPath, []int) {
	count := 1 + r.IntN(6)
	switch r.IntN(6) {
	case 0:
		count = 1
	case 1:
		count = 1 + r.IntN(40)
	}
	p := impl.FlyPath{Kind: drawFlyKind(r), Steps: drawFlySteps(r, count)}
	flight := []int{0}
	for k, s := range p.Steps {
		stay := drawBetween(r, p.Kind.Quick, p.Kind.Slow)
		if s.Hold && r.IntN(2) == 0 {
			stay += r.IntN(100)
		}
		flight = append(flight, flight[k]+stay)
	}
	begin := []int{0, r.IntN(100), r.IntN(10000), 10000}[r.IntN(4)]
	begin = min(begin, 10000-flight[count])
	for k := range flight {
		flight[k] += begin
	}
	for k := range p.Steps {
		p.Steps[k].From, p.Steps[k].By = drawWindow(r, flight[k])
	}
	p.From, p.By = drawWindow(r, flight[count])
	return p, flight
}

// bendFlight is a copy of a flight along a path with something changed, often at a bound of what keeps to it.
func bendFlight(r *rand.Rand, p impl.FlyPath, flight []int) []int {
	flight = slices.Clone(flight)
	if len(flight) == 0 || r.IntN(12) == 0 {
		return append(flight, r.IntN(100))
	}
	if r.IntN(20) == 0 {
		return flight[:len(flight)-1]
	}
	k := r.IntN(len(flight))
	froms, bys := flyWindowsOf(p)
	switch r.IntN(5) {
	case 0:
		flight[k] += r.IntN(5) - 2
	case 1:
		if k < len(froms) {
			flight[k] = froms[k] - r.IntN(2)
		}
	case 2:
		if k < len(bys) {
			flight[k] = bys[k] + r.IntN(2)
		}
	case 3:
		flight[k] = farNumbers[r.IntN(len(farNumbers))]
	case 4:
		if k > 0 {
			// All from here on are moved, so that one stay alone is another one.
			stay := []int{p.Kind.Quick - 1, p.Kind.Quick, p.Kind.Slow, p.Kind.Slow + 1}[r.IntN(4)]
			by := flight[k-1] + stay - flight[k]
			for later := k; later < len(flight); later++ {
				flight[later] += by
			}
		}
	}
	return flight
}

// bendFly changes something of a path, often to a number at a limit or one past it.
func bendFly(r *rand.Rand, p *impl.FlyPath) {
	limits := []int{-1, 0, 1, 2, 3, 5, 6, 7, 15, 16, 17, 49, 50, 51, 100, 9999, 10000, 10001}
	n := limits[r.IntN(len(limits))]
	if r.IntN(12) == 0 {
		n = farNumbers[r.IntN(len(farNumbers))]
	}
	k := r.IntN(1 + len(p.Steps))
	if k == len(p.Steps) {
		fields := []*int{&p.Kind.Quick, &p.Kind.Slow, &p.From, &p.By}
		*fields[r.IntN(len(fields))] = n
		return
	}
	s := &p.Steps[k]
	switch r.IntN(8) {
	case 0:
		s.Hold = !s.Hold
	case 1:
		s.X += r.IntN(5) - 2
	case 2:
		s.Y += r.IntN(5) - 2
	case 3:
		s.Low, s.High = drawBetween(r, -1, 7), drawBetween(r, -1, 7)
	case 4:
		p.Steps = slices.Delete(p.Steps, k, k+1)
	case 5:
		p.Steps = slices.Insert(p.Steps, k, impl.FlyStep{X: s.X, Y: s.Y, High: 6, By: 10000})
	default:
		fields := []*int{&s.X, &s.Y, &s.Low, &s.High, &s.From, &s.By}
		*fields[r.IntN(len(fields))] = n
	}
}

// flyWindowsOf is all windows of a path, its own behind those of its steps.
func flyWindowsOf(p impl.FlyPath) (froms, bys []int) {
	for _, s := range p.Steps {
		froms, bys = append(froms, s.From), append(bys, s.By)
	}
	return append(froms, p.From), append(bys, p.By)
}

// flyOkByRules says what chapters 21 and 22 say, in another way: what is asked of numbers is looked up among all that
// there are, what is asked of neighbours among the cells round one.
func flyOkByRules(p impl.FlyPath) bool {
	kinds, windows, levels := 0, 0, 0
	for quick := 1; quick <= 50; quick++ {
		for slow := quick; slow <= 50; slow++ {
			if p.Kind == (impl.FlyKind{Quick: quick, Slow: slow}) {
				kinds++
			}
		}
	}
	froms, bys := flyWindowsOf(p)
	for k := range froms {
		if slices.IsSorted([]int{0, froms[k], bys[k], 10000}) {
			windows++
		}
	}
	for k, s := range p.Steps {
		if k > 0 && !flyOneOnByRules(p.Steps[k-1], s) {
			return false
		}
		if s.X >= 0 && s.X < 16 && s.Y >= 0 && s.Y < 16 && slices.IsSorted([]int{0, s.Low, s.High, 6}) {
			levels++
		}
	}
	count := len(p.Steps)
	return kinds == 1 && count > 0 && count < 41 && windows == count+1 && levels == count
}

// flyOneOnByRules says whether one can go from a step to another.
func flyOneOnByRules(a, b impl.FlyStep) bool {
	common := 0
	for level := range 7 {
		if a.Low <= level && level <= a.High && b.Low <= level && level <= b.High {
			common++
		}
	}
	return common > 0 && slices.Contains(roundOf(a.X, a.Y), [2]int{b.X, b.Y})
}

// lawfulByClock says what chapter 23 says, in another way: all ticks there are go by, and at each of them the flight
// goes on to its next step, if that is its tick, or stays in the one in which it is.
func lawfulByClock(p impl.FlyPath, flight []int) bool {
	if !flyOkByRules(p) || len(flight) != len(p.Steps)+1 {
		return false
	}
	froms, bys := flyWindowsOf(p)
	entered, stayed := 0, 0
	for now := range 10001 {
		if entered < len(flight) && flight[entered] == now {
			if now < froms[entered] || now > bys[entered] || entered > 0 && stayed < p.Kind.Quick {
				return false
			}
			entered, stayed = entered+1, 0
		}
		stayed++
		inside := entered > 0 && entered < len(flight)
		if inside && stayed > p.Kind.Slow && !p.Steps[entered-1].Hold {
			return false
		}
	}
	return entered == len(flight)
}
