package tests

import (
	"fmt"
	"math"
	"math/rand/v2"
	"slices"
	"testing"

	"loop.example/lapwing/impl"
)

func wantTube(t *testing.T, what string, p impl.FlyPath, want []impl.FlyBox) {
	t.Helper()
	if got := impl.FlyTube(p); !slices.Equal(got, want) {
		t.Errorf("%s: FlyTube is %v, not %v, of %+v", what, got, want, p)
	}
}

// tubeOf is the tube of a path with these spans.
func tubeOf(p impl.FlyPath, spans []impl.FlySpan) []impl.FlyBox {
	var tube []impl.FlyBox
	for k, s := range p.Steps {
		if len(spans) > 0 {
			tube = append(tube, impl.FlyBox{X: s.X, Y: s.Y, Low: s.Low, High: s.High, In: spans[k].Low, Out: spans[k+1].High - 1})
		}
	}
	return tube
}

func TestTubeByHand(t *testing.T) {
	wantTube(t, "small", smallFly(), []impl.FlyBox{
		{X: 3, Y: 4, Low: 0, High: 1, In: 10, Out: 24},
		{X: 4, Y: 4, Low: 1, High: 2, In: 12, Out: 59},
		{X: 5, Y: 5, Low: 2, High: 2, In: 14, Out: 64},
	})
	p := smallFly()
	p.Steps[1].Hold = false
	wantTube(t, "without Hold", p, []impl.FlyBox{
		{X: 3, Y: 4, Low: 0, High: 1, In: 10, Out: 24},
		{X: 4, Y: 4, Low: 1, High: 2, In: 12, Out: 29},
		{X: 5, Y: 5, Low: 2, High: 2, In: 14, Out: 34},
	})
	p.Steps[0].Hold, p.Steps[2].Hold = true, true
	wantTube(t, "Hold in the first and the last", p, []impl.FlyBox{
		{X: 3, Y: 4, Low: 0, High: 1, In: 10, Out: 24},
		{X: 4, Y: 4, Low: 1, High: 2, In: 12, Out: 29},
		{X: 5, Y: 5, Low: 2, High: 2, In: 14, Out: 64},
	})
	p.By = 17
	wantTube(t, "it ends early", p, []impl.FlyBox{
		{X: 3, Y: 4, Low: 0, High: 1, In: 10, Out: 12},
		{X: 4, Y: 4, Low: 1, High: 2, In: 12, Out: 14},
		{X: 5, Y: 5, Low: 2, High: 2, In: 14, Out: 16},
	})
	p.From, p.By = 62, 62
	p.Steps[2].Hold = false
	wantTube(t, "it ends too late", p, nil)
	p.Steps[1].Hold = true
	wantTube(t, "it ends late", p, []impl.FlyBox{
		{X: 3, Y: 4, Low: 0, High: 1, In: 10, Out: 24},
		{X: 4, Y: 4, Low: 1, High: 2, In: 12, Out: 59},
		{X: 5, Y: 5, Low: 2, High: 2, In: 57, Out: 61},
	})
}

func TestTubeOfOneStep(t *testing.T) {
	p := windowFly(1, 1, spansOf(0, 0, 1, 1))
	wantTube(t, "one tick", p, []impl.FlyBox{{X: 0, Y: 7}})
	p = impl.FlyPath{Kind: impl.FlyKind{Quick: 4, Slow: 6}, Steps: []impl.FlyStep{{X: 15, Y: 15, Low: 6, High: 6, From: 9990, By: 10000}}, From: 0, By: 10000}
	wantTube(t, "up to the last tick", p, []impl.FlyBox{{X: 15, Y: 15, Low: 6, High: 6, In: 9990, Out: 9999}})
	p.By = 9994
	wantTube(t, "the quickest alone", p, []impl.FlyBox{{X: 15, Y: 15, Low: 6, High: 6, In: 9990, Out: 9993}})
	p.By = 9993
	wantTube(t, "too early", p, nil)
}

func TestTubeOfFortySteps(t *testing.T) {
	p := fullFly()
	tube := impl.FlyTube(p)
	if len(tube) != 40 {
		t.Fatalf("%d boxes", len(tube))
	}
	for k, b := range tube {
		s := p.Steps[k]
		want := impl.FlyBox{X: s.X, Y: s.Y, Low: 0, High: 6, In: 50 * k, Out: 10000 - 50*(39-k) - 1}
		if b != want {
			t.Errorf("%v at %d, not %v", b, k, want)
		}
	}
}

// Two steps in one cell that do not follow each other have a box each, with their own levels and ticks.
func TestTubeOfOneCellTwice(t *testing.T) {
	p := windowFly(2, 3, spansOf(0, 4, 0, 900, 0, 900, 0, 900))
	p.Steps[0].High, p.Steps[1].High, p.Steps[2].High = 3, 2, 1
	wantTube(t, "there and back", p, []impl.FlyBox{
		{X: 0, Y: 7, High: 3, In: 0, Out: 6},
		{X: 1, Y: 7, High: 2, In: 2, Out: 9},
		{X: 0, Y: 7, High: 1, In: 4, Out: 12},
	})
	p.Steps[1].Hold = true
	p.Steps[2].From = 500
	tube := []impl.FlyBox{
		{X: 0, Y: 7, High: 3, In: 0, Out: 6},
		{X: 1, Y: 7, High: 2, In: 2, Out: 896},
		{X: 0, Y: 7, High: 1, In: 500, Out: 899},
	}
	p.Steps[2].By = 897
	wantTube(t, "back much later", p, tube)
	for tick := range 1000 {
		for level := range 5 {
			want := tick <= 6 && level <= 3 || tick >= 500 && tick <= 899 && level <= 1
			wantWithin(t, tube, 0, 7, level, tick, want)
		}
	}
}

func TestTubeOfPathsWithoutFlights(t *testing.T) {
	for what, p := range brokenFlies() {
		wantTube(t, what, p, nil)
	}
	wantTube(t, "the last too early", windowFly(3, 5, spansOf(10, 20, 0, 100, 0, 15)), nil)
	wantTube(t, "the last too late", windowFly(3, 5, spansOf(10, 20, 0, 100, 31, 40)), nil)
	wantTube(t, "the middle too early", windowFly(3, 5, spansOf(10, 20, 0, 12, 0, 100)), nil)
	wantTube(t, "the middle too late", windowFly(3, 5, spansOf(10, 20, 26, 50, 0, 100)), nil)
	wantTube(t, "the first too late", windowFly(3, 5, spansOf(8, 20, 0, 10, 0, 100)), nil)
	wantTube(t, "never all", windowFly(3, 5, spansOf(0, 0, 0, 10, 11, 20)), nil)
}

// A box has just the ticks at which some flight is in its step.
func TestTubesOfAllFlights(t *testing.T) {
	r := rand.New(rand.NewPCG(25, 1))
	count := map[bool]int{}
	for range 2500 {
		p := drawTightFly(r)
		all := flightsByTrying(p)
		count[len(all) > 0]++
		wantTube(t, "a small path", p, tubeOf(p, spansOfFlights(all)))
		for k, b := range impl.FlyTube(p) {
			inside := map[int]bool{}
			for _, flight := range all {
				for tick := flight[k]; tick < flight[k+1]; tick++ {
					inside[tick] = true
				}
			}
			for tick := b.In - 3; tick <= b.Out+3; tick++ {
				if inside[tick] != (b.In <= tick && tick <= b.Out) {
					t.Errorf("at %d some flight is in step %d: %v; its box is %v, of %+v", tick, k, inside[tick], b, p)
				}
			}
			if len(inside) != b.Out-b.In+1 {
				t.Errorf("%d ticks are in step %d, its box is %v, of %+v", len(inside), k, b, p)
			}
		}
	}
	if count[true] < 600 || count[false] < 300 {
		t.Errorf("too few of one kind: %v", count)
	}
}

// Long paths too: a flight is found for ticks of each box, and whoever flies is within the tube all the time.
func TestTubesAtRandom(t *testing.T) {
	r := rand.New(rand.NewPCG(25, 2))
	for range 1000 {
		p, flight := drawFly(r)
		tube := impl.FlyTube(p)
		wantTube(t, "made round a flight", p, tubeOf(p, spansByBounds(p)))
		for k, b := range tube {
			s := p.Steps[k]
			for _, tick := range []int{b.In, b.Out, drawBetween(r, b.In, b.Out)} {
				there := someFlightOf(squeezed(squeezed(p, k, 0, tick), k+1, tick+1, 10000))
				place, ok := impl.FlyWhere(there, tick)
				if !impl.FlyLawful(p, there) || !ok || place != k {
					t.Errorf("nobody is in step %d at %d along %+v", k, tick, p)
				}
			}
			for _, tick := range []int{flight[k], flight[k+1] - 1, drawBetween(r, flight[k], flight[k+1]-1)} {
				for level := s.Low; level <= s.High; level++ {
					wantWithin(t, tube, s.X, s.Y, level, tick, true)
				}
			}
		}
		bendFly(r, &p)
		wantTube(t, "bent", p, tubeOf(p, spansByBounds(p)))
	}
}

func wantWithin(t *testing.T, tube []impl.FlyBox, x, y, level, tick int, want bool) {
	t.Helper()
	if got := impl.FlyWithin(tube, x, y, level, tick); got != want {
		t.Errorf("FlyWithin is %v of %d, %d, level %d, tick %d, in %v", got, x, y, level, tick, tube)
	}
}

func TestWithinNoBoxes(t *testing.T) {
	for _, n := range append([]int{-1, 0, 1}, farNumbers...) {
		wantWithin(t, nil, n, n, n, n, false)
		wantWithin(t, []impl.FlyBox{}, n, n, n, n, false)
	}
}

// At each end of a box and one past it, box by box of several, some of them in one cell.
func TestWithinAtTheEndsOfBoxes(t *testing.T) {
	boxes := []impl.FlyBox{
		{X: 3, Y: 5, Low: 2, High: 4, In: 10, Out: 20},
		{X: 3, Y: 5, Low: 2, High: 2, In: 30, Out: 30},
		{X: 3, Y: 5, Low: 5, High: 6, In: 40, Out: 41},
		{X: 5, Y: 3, Low: 2, High: 4, In: 50, Out: 60},
	}
	for _, tube := range [][]impl.FlyBox{boxes, {boxes[1], boxes[0], boxes[3], boxes[2]}, {boxes[2], boxes[1], boxes[0], boxes[3]}} {
		for _, b := range tube {
			for _, level := range []int{b.Low, b.High} {
				for _, tick := range []int{b.In, b.Out, (b.In + b.Out) / 2} {
					wantWithin(t, tube, b.X, b.Y, level, tick, true)
					wantWithin(t, tube, b.X-1, b.Y, level, tick, false)
					wantWithin(t, tube, b.X+1, b.Y, level, tick, false)
					wantWithin(t, tube, b.X, b.Y-1, level, tick, false)
					wantWithin(t, tube, b.X, b.Y+1, level, tick, false)
					wantWithin(t, tube, b.Y, b.X, level, tick, false)
				}
				wantWithin(t, tube, b.X, b.Y, level, b.In-1, false)
				wantWithin(t, tube, b.X, b.Y, level, b.Out+1, false)
			}
			for _, tick := range []int{b.In, b.Out} {
				wantWithin(t, tube, b.X, b.Y, b.Low-1, tick, false)
				wantWithin(t, tube, b.X, b.Y, b.High+1, tick, false)
			}
		}
	}
	// The level of one with the tick of another is in neither.
	wantWithin(t, boxes, 3, 5, 5, 15, false)
	wantWithin(t, boxes, 3, 5, 3, 30, false)
	wantWithin(t, boxes, 3, 5, 2, 40, false)
}

// Boxes that have nothing, alone and among others.
func TestWithinBoxesThatHaveNothing(t *testing.T) {
	empty := []impl.FlyBox{
		{X: 1, Y: 1, Low: 3, High: 2, In: 0, Out: 9},
		{X: 1, Y: 1, Low: 0, High: 6, In: 5, Out: 4},
		{X: 1, Y: 1, Low: 6, High: 0, In: 9, Out: 0},
	}
	full := impl.FlyBox{X: 1, Y: 1, Low: 2, High: 2, In: 4, Out: 4}
	for level := -1; level <= 7; level++ {
		for tick := -1; tick <= 10; tick++ {
			for k := range empty {
				wantWithin(t, empty[k:k+1], 1, 1, level, tick, false)
			}
			wantWithin(t, empty, 1, 1, level, tick, false)
			for k := range 4 {
				wantWithin(t, slices.Insert(slices.Clone(empty), k, full), 1, 1, level, tick, level == 2 && tick == 4)
			}
		}
	}
}

// Boxes need be no part of any path: cells, levels and ticks may be any numbers.
func TestWithinAtTheEndsOfInt(t *testing.T) {
	least, most := math.MinInt, math.MaxInt
	all := []impl.FlyBox{{X: most, Y: least, Low: least, High: most, In: least, Out: most}}
	turned := []impl.FlyBox{{X: most, Y: least, Low: most, High: least, In: least, Out: most}, {X: most, Y: least, Low: least, High: most, In: most, Out: least}}
	for _, level := range farNumbers {
		for _, tick := range farNumbers {
			wantWithin(t, all, most, least, level, tick, true)
			wantWithin(t, all, least, most, level, tick, false)
			wantWithin(t, all, most, most, level, tick, false)
			wantWithin(t, all, least, least, level, tick, false)
			wantWithin(t, all, most-1, least, level, tick, false)
			wantWithin(t, all, most, least+1, level, tick, false)
			wantWithin(t, turned, most, least, level, tick, false)
		}
	}
	low := []impl.FlyBox{{Low: least, High: least, In: least, Out: least}}
	high := []impl.FlyBox{{Low: most, High: most, In: most, Out: most}}
	for _, level := range farNumbers {
		for _, tick := range farNumbers {
			wantWithin(t, low, 0, 0, level, tick, level == least && tick == least)
			wantWithin(t, high, 0, 0, level, tick, level == most && tick == most)
		}
	}
}

// manyBoxes are boxes of few cells, each with another tick.
func manyBoxes(count int) []impl.FlyBox {
	var tube []impl.FlyBox
	for k := range count {
		tube = append(tube, impl.FlyBox{X: k % 7, Y: k % 5, Low: k % 3, High: k % 3, In: k, Out: k})
	}
	return tube
}

func TestWithinVeryManyBoxes(t *testing.T) {
	tube := manyBoxes(5000)
	for _, k := range []int{0, 1, 2500, 4998, 4999} {
		wantWithin(t, tube, k%7, k%5, k%3, k, true)
		wantWithin(t, tube, k%7, k%5, k%3+1, k, false)
		wantWithin(t, tube, k%7, k%5, k%3, k+1, false)
		wantWithin(t, tube, k%7+1, k%5, k%3, k, false)
	}
}

func wantSmaller(t *testing.T, what string, a, b []impl.FlyBox, want bool) {
	t.Helper()
	if got := impl.FlySmaller(a, b); got != want {
		t.Errorf("%s: FlySmaller is %v of %v and %v", what, got, a, b)
	}
}

func TestSmallerWithoutBoxes(t *testing.T) {
	box := []impl.FlyBox{{X: 1, Y: 1, Low: 0, High: 3, In: 5, Out: 9}}
	for _, none := range [][]impl.FlyBox{nil, {}} {
		wantSmaller(t, "none on both sides", none, nil, true)
		wantSmaller(t, "none on both sides", nil, none, true)
		wantSmaller(t, "none on the one side", none, box, true)
		wantSmaller(t, "none on the other side", box, none, false)
		wantSmaller(t, "a box of one place", []impl.FlyBox{{}}, none, false)
	}
}

// A box that has nothing is within all, and has nothing within it.
func TestSmallerOfBoxesThatHaveNothing(t *testing.T) {
	box := impl.FlyBox{X: 1, Y: 1, Low: 2, High: 3, In: 5, Out: 9}
	for _, empty := range []impl.FlyBox{
		{X: 1, Y: 1, Low: 3, High: 2, In: 5, Out: 9}, {X: 1, Y: 1, Low: 2, High: 3, In: 9, Out: 8}, {X: 1, Y: 1, Low: 9, High: 0, In: 9, Out: 0},
		{X: 1, Y: 1, Low: 9, High: 0, In: 5, Out: 9}, {X: 8, Y: 8, Low: 1, High: 0}, {Low: math.MaxInt, High: math.MinInt}, {In: math.MaxInt, Out: math.MinInt},
	} {
		for _, other := range [][]impl.FlyBox{nil, {box}, {empty}, {empty, box}, {{X: 9}}} {
			wantSmaller(t, "one alone", []impl.FlyBox{empty}, other, true)
			wantSmaller(t, "two", []impl.FlyBox{empty, empty}, other, true)
			holds := slices.Contains(other, box)
			wantSmaller(t, "ahead of another", []impl.FlyBox{empty, box}, other, holds)
			wantSmaller(t, "behind another", []impl.FlyBox{box, empty}, other, holds)
		}
		wantSmaller(t, "within what has nothing", []impl.FlyBox{box}, []impl.FlyBox{empty}, false)
		wantSmaller(t, "one place within what has nothing", []impl.FlyBox{{X: 1, Y: 1, Low: 3, High: 3, In: 9, Out: 9}}, []impl.FlyBox{empty}, false)
	}
}

func TestSmallerAtTheEndsOfABox(t *testing.T) {
	great := impl.FlyBox{X: 1, Y: 2, Low: 2, High: 4, In: 10, Out: 20}
	other := impl.FlyBox{X: 1, Y: 2, Low: 6, High: 6, In: 50, Out: 60}
	for _, c := range []struct {
		what   string
		change func(b *impl.FlyBox)
		want   bool
	}{
		{"the same", func(b *impl.FlyBox) {}, true},
		{"Low within", func(b *impl.FlyBox) { b.Low++ }, true},
		{"High within", func(b *impl.FlyBox) { b.High-- }, true},
		{"In within", func(b *impl.FlyBox) { b.In++ }, true},
		{"Out within", func(b *impl.FlyBox) { b.Out-- }, true},
		{"all within", func(b *impl.FlyBox) { b.Low, b.High, b.In, b.Out = 3, 3, 15, 15 }, true},
		{"one place at its beginning", func(b *impl.FlyBox) { b.High, b.Out = b.Low, b.In }, true},
		{"one place at its end", func(b *impl.FlyBox) { b.Low, b.In = b.High, b.Out }, true},
		{"Low one past", func(b *impl.FlyBox) { b.Low-- }, false},
		{"High one past", func(b *impl.FlyBox) { b.High++ }, false},
		{"In one past", func(b *impl.FlyBox) { b.In-- }, false},
		{"Out one past", func(b *impl.FlyBox) { b.Out++ }, false},
		{"all below", func(b *impl.FlyBox) { b.Low, b.High = 0, 1 }, false},
		{"all above", func(b *impl.FlyBox) { b.Low, b.High = 5, 5 }, false},
		{"all ahead", func(b *impl.FlyBox) { b.In, b.Out = 0, 9 }, false},
		{"all behind", func(b *impl.FlyBox) { b.In, b.Out = 21, 30 }, false},
		{"X one less", func(b *impl.FlyBox) { b.X-- }, false},
		{"X one more", func(b *impl.FlyBox) { b.X++ }, false},
		{"Y one less", func(b *impl.FlyBox) { b.Y-- }, false},
		{"Y one more", func(b *impl.FlyBox) { b.Y++ }, false},
		{"X and Y the other way", func(b *impl.FlyBox) { b.X, b.Y = b.Y, b.X }, false},
	} {
		small := great
		c.change(&small)
		wantSmaller(t, c.what, []impl.FlyBox{small}, []impl.FlyBox{great}, c.want)
		if c.want {
			wantSmaller(t, c.what+", the other way", []impl.FlyBox{great}, []impl.FlyBox{small}, small == great)
		}
		for _, b := range [][]impl.FlyBox{{great, other}, {other, great}, {other, great, other}} {
			wantSmaller(t, c.what+", among others", []impl.FlyBox{small}, b, c.want)
		}
		for _, a := range [][]impl.FlyBox{{small, great}, {great, small}, {great, small, great}} {
			wantSmaller(t, c.what+", beside others", a, []impl.FlyBox{great}, c.want)
		}
	}
}

// One box is to hold all of it: two that hold it only together do not.
func TestSmallerThanTwoBoxesTogether(t *testing.T) {
	box := []impl.FlyBox{{X: 1, Y: 1, Low: 2, High: 5, In: 10, Out: 20}}
	for what, b := range map[string][]impl.FlyBox{
		"cut by levels":       {{X: 1, Y: 1, Low: 2, High: 3, In: 10, Out: 20}, {X: 1, Y: 1, Low: 4, High: 5, In: 10, Out: 20}},
		"cut by ticks":        {{X: 1, Y: 1, Low: 2, High: 5, In: 10, Out: 15}, {X: 1, Y: 1, Low: 2, High: 5, In: 16, Out: 20}},
		"levels in common":    {{X: 1, Y: 1, Low: 0, High: 4, In: 0, Out: 30}, {X: 1, Y: 1, Low: 3, High: 6, In: 0, Out: 30}},
		"ticks in common":     {{X: 1, Y: 1, Low: 0, High: 6, In: 0, Out: 19}, {X: 1, Y: 1, Low: 0, High: 6, In: 11, Out: 30}},
		"levels, then ticks":  {{X: 1, Y: 1, Low: 2, High: 5, In: 12, Out: 13}, {X: 1, Y: 1, Low: 3, High: 4, In: 10, Out: 20}},
		"in two other cells":  {{X: 1, Y: 2, Low: 2, High: 5, In: 10, Out: 20}, {X: 2, Y: 1, Low: 2, High: 5, In: 10, Out: 20}},
		"one of another cell": {{X: 1, Y: 1, Low: 2, High: 5, In: 10, Out: 19}, {X: 1, Y: 0, Low: 2, High: 5, In: 10, Out: 20}},
	} {
		wantSmaller(t, what, box, b, false)
		slices.Reverse(b)
		wantSmaller(t, what, box, b, false)
		wantSmaller(t, what+", and it", box, append(b, box[0]), true)
	}
}

func TestSmallerAtTheEndsOfInt(t *testing.T) {
	least, most := math.MinInt, math.MaxInt
	all := impl.FlyBox{X: least, Y: most, Low: least, High: most, In: least, Out: most}
	wantSmaller(t, "all", []impl.FlyBox{all}, []impl.FlyBox{all}, true)
	for k := range 4 {
		small := all
		ends := []*int{&small.Low, &small.High, &small.In, &small.Out}
		*ends[k] += []int{1, -1, 1, -1}[k]
		wantSmaller(t, "one less at an end", []impl.FlyBox{small}, []impl.FlyBox{all}, true)
		wantSmaller(t, "one more at an end", []impl.FlyBox{all}, []impl.FlyBox{small}, false)
	}
	for _, x := range farNumbers {
		for _, y := range farNumbers {
			here := impl.FlyBox{X: x, Y: y, Low: 1, High: 1, In: 1, Out: 1}
			wantSmaller(t, "a cell far away", []impl.FlyBox{here}, []impl.FlyBox{all}, x == least && y == most)
			wantSmaller(t, "itself", []impl.FlyBox{here}, []impl.FlyBox{all, here}, true)
		}
	}
	for _, low := range farNumbers {
		for _, high := range farNumbers {
			levels := impl.FlyBox{Low: low, High: high}
			ticks := impl.FlyBox{In: low, Out: high}
			wantSmaller(t, "levels far away", []impl.FlyBox{levels}, nil, low > high)
			wantSmaller(t, "ticks far away", []impl.FlyBox{ticks}, nil, low > high)
			wantSmaller(t, "levels within themselves", []impl.FlyBox{levels}, []impl.FlyBox{levels}, true)
			wantSmaller(t, "ticks within themselves", []impl.FlyBox{ticks}, []impl.FlyBox{ticks}, true)
			wantSmaller(t, "level 0", []impl.FlyBox{{}}, []impl.FlyBox{levels}, low <= 0 && 0 <= high)
			wantSmaller(t, "tick 0", []impl.FlyBox{{}}, []impl.FlyBox{ticks}, low <= 0 && 0 <= high)
		}
	}
}

func TestSmallerOfVeryManyBoxes(t *testing.T) {
	a, b := manyBoxes(3000), manyBoxes(3000)
	slices.Reverse(b)
	wantSmaller(t, "the same, turned round", a, b, true)
	for _, k := range []int{0, 1500, 2999} {
		wantSmaller(t, "all but one", a, slices.Delete(slices.Clone(b), k, k+1), false)
		wantSmaller(t, "all but one of the other", slices.Delete(slices.Clone(b), k, k+1), a, true)
	}
}

// drawTube is a few boxes with small numbers, at times such as have nothing.
func drawTube(r *rand.Rand, count int) []impl.FlyBox {
	var tube []impl.FlyBox
	for range count {
		b := impl.FlyBox{X: r.IntN(2), Y: r.IntN(2), Low: r.IntN(4), In: r.IntN(5)}
		b.High, b.Out = b.Low+r.IntN(4)-1, b.In+r.IntN(5)-1
		tube = append(tube, b)
	}
	return tube
}

// placesOf are all cells, levels and ticks of a box.
func placesOf(b impl.FlyBox) map[[4]int]bool {
	places := map[[4]int]bool{}
	for level := b.Low; level <= b.High; level++ {
		for tick := b.In; tick <= b.Out; tick++ {
			places[[4]int{b.X, b.Y, level, tick}] = true
		}
	}
	return places
}

// smallerByPlaces says what chapter 25 says of two tubes, in another way: place by place.
func smallerByPlaces(a, b []impl.FlyBox) bool {
	for _, one := range a {
		places := placesOf(one)
		held := len(places) == 0
		for _, other := range b {
			common := 0
			for place := range placesOf(other) {
				if places[place] {
					common++
				}
			}
			held = held || common == len(places)
		}
		if !held {
			return false
		}
	}
	return true
}

func TestBoxesAtRandom(t *testing.T) {
	r := rand.New(rand.NewPCG(25, 3))
	count := map[string]int{}
	for range 4000 {
		a, b := drawTube(r, r.IntN(4)), drawTube(r, r.IntN(9))
		if r.IntN(3) == 0 {
			b = append(b, a...)
			r.Shuffle(len(b), func(i, j int) { b[i], b[j] = b[j], b[i] })
		}
		want := smallerByPlaces(a, b)
		count[fmt.Sprint("smaller ", want)]++
		wantSmaller(t, "at random", a, b, want)
		wantSmaller(t, "itself", b, b, true)
		places := map[[4]int]bool{}
		for _, box := range b {
			for place := range placesOf(box) {
				places[place] = true
			}
		}
		for range 20 {
			x, y, level, tick := r.IntN(4)-1, r.IntN(4)-1, r.IntN(9)-1, r.IntN(11)-1
			if len(b) > 0 && r.IntN(4) > 0 {
				// Often round a box, at its ends.
				box := b[r.IntN(len(b))]
				x, y = box.X, box.Y
				level, tick = drawBetween(r, box.Low-1, box.High+1), drawBetween(r, box.In-1, box.Out+1)
			}
			inside := places[[4]int{x, y, level, tick}]
			count[fmt.Sprint("within ", inside)]++
			wantWithin(t, b, x, y, level, tick, inside)
		}
	}
	for _, what := range []string{"smaller true", "smaller false", "within true", "within false"} {
		if count[what] < 1000 {
			t.Errorf("too few of one kind: %v", count)
		}
	}
}

// What is within a smaller tube is within the greater one; the tube of a path that leaves less is smaller.
func TestSmallerTubesOfPaths(t *testing.T) {
	r := rand.New(rand.NewPCG(25, 4))
	smaller, less := 0, 0
	for range 1500 {
		p, flight := drawFly(r)
		left := p
		for range 3 {
			place := r.IntN(len(flight))
			left = squeezed(left, place, flight[place]-r.IntN(4), flight[place]+r.IntN(4))
		}
		tube, small := impl.FlyTube(p), impl.FlyTube(left)
		wantSmaller(t, "a path that leaves less", small, tube, true)
		if len(small) == len(tube) {
			smaller++
		}
		if !slices.Equal(small, tube) {
			less++
			wantSmaller(t, "a path that leaves more", tube, small, smallerTube(tube, small))
		}
		for _, b := range small {
			tick, level := drawBetween(r, b.In, b.Out), drawBetween(r, b.Low, b.High)
			wantWithin(t, small, b.X, b.Y, level, tick, true)
			wantWithin(t, tube, b.X, b.Y, level, tick, true)
		}
	}
	if smaller < 1500 || less < 750 {
		t.Errorf("%d tubes are smaller, %d are less", smaller, less)
	}
}

// smallerTube says what chapter 25 says of two tubes whose boxes all have something, box by box.
func smallerTube(a, b []impl.FlyBox) bool {
	for _, one := range a {
		held := 0
		for _, other := range b {
			sameCell := [2]int{one.X, one.Y} == [2]int{other.X, other.Y}
			if sameCell && slices.IsSorted([]int{other.Low, one.Low, one.High, other.High}) && slices.IsSorted([]int{other.In, one.In, one.Out, other.Out}) {
				held++
			}
		}
		if held == 0 {
			return false
		}
	}
	return true
}

func TestTubesAreNotWrittenInto(t *testing.T) {
	r := rand.New(rand.NewPCG(25, 5))
	for range 200 {
		a, b := drawTube(r, r.IntN(5)), drawTube(r, r.IntN(5))
		fencedA := append(slices.Clone(a), impl.FlyBox{X: 77})[:len(a)]
		fencedB := append(slices.Clone(b), impl.FlyBox{X: 77})[:len(b)]
		wholeA, wholeB := slices.Clone(fencedA[:cap(fencedA)]), slices.Clone(fencedB[:cap(fencedB)])
		first := impl.FlySmaller(fencedA, fencedB)
		within := impl.FlyWithin(fencedB, 1, 1, 2, 3)
		if impl.FlySmaller(fencedA, fencedB) != first || impl.FlyWithin(fencedB, 1, 1, 2, 3) != within {
			t.Errorf("another answer the second time, of %v and %v", a, b)
		}
		if !slices.Equal(fencedA[:cap(fencedA)], wholeA) || !slices.Equal(fencedB[:cap(fencedB)], wholeB) {
			t.Errorf("written into %v or %v", a, b)
		}
	}
}
