package tests

import (
	"fmt"
	"math/rand/v2"
	"reflect"
	"slices"
	"testing"

	"loop.example/lapwing/impl"
)

// wantSpans asks for the spans of a path, and with them for its earliest and its latest flight; without spans there is
// no flight.
func wantSpans(t *testing.T, what string, p impl.FlyPath, want []impl.FlySpan) {
	t.Helper()
	spans, ok := impl.FlySpans(p)
	if ok != (len(want) > 0) || !slices.Equal(spans, want) {
		t.Errorf("%s: FlySpans is %v, %v, not %v, of %+v", what, spans, ok, want, p)
	}
	var lows, highs []int
	for _, s := range want {
		lows, highs = append(lows, s.Low), append(highs, s.High)
	}
	if first := impl.FlyFirst(p); !slices.Equal(first, lows) {
		t.Errorf("%s: FlyFirst is %v, not %v, of %+v", what, first, lows, p)
	}
	if last := impl.FlyLast(p); !slices.Equal(last, highs) {
		t.Errorf("%s: FlyLast is %v, not %v, of %+v", what, last, highs, p)
	}
}

// spansOf is spans, of the least and the greatest tick of each in turn.
func spansOf(ticks ...int) []impl.FlySpan {
	var spans []impl.FlySpan
	for pair := range slices.Chunk(ticks, 2) {
		spans = append(spans, impl.FlySpan{Low: pair[0], High: pair[1]})
	}
	return spans
}

// windowFly is a path of a kind along one row, with these windows, of which the last is its own, and Hold in the steps
// at some places.
func windowFly(quick, slow int, windows []impl.FlySpan, holds ...int) impl.FlyPath {
	p := straightFly(impl.FlyKind{Quick: quick, Slow: slow}, len(windows)-1, 0, 0)
	for k := range p.Steps {
		p.Steps[k].From, p.Steps[k].By = windows[k].Low, windows[k].High
	}
	for _, k := range holds {
		p.Steps[k].Hold = true
	}
	p.From, p.By = windows[len(windows)-1].Low, windows[len(windows)-1].High
	return p
}

func TestSpansByHand(t *testing.T) {
	wantSpans(t, "small", smallFly(), spansOf(10, 20, 12, 25, 14, 60, 16, 65))
	for _, c := range []struct {
		what string
		p    impl.FlyPath
		want []impl.FlySpan
	}{
		{"all is free", windowFly(2, 3, spansOf(5, 6, 0, 100, 0, 100, 0, 100)), spansOf(5, 6, 7, 9, 9, 12, 11, 15)},
		{"only the end is told", windowFly(2, 3, spansOf(0, 100, 0, 100, 0, 100, 50, 51)), spansOf(41, 45, 44, 47, 47, 49, 50, 51)},
		{"only the middle is told", windowFly(2, 3, spansOf(0, 100, 0, 100, 50, 50, 0, 100, 0, 100)), spansOf(44, 46, 47, 48, 50, 50, 52, 53, 54, 56)},
		{"a bound that is felt only forward", windowFly(2, 9, spansOf(10, 20, 0, 20, 0, 20)), spansOf(10, 16, 12, 18, 14, 20)},
		{"a least tick that is felt only forward", windowFly(2, 9, spansOf(10, 14, 0, 30, 0, 60)), spansOf(10, 14, 12, 23, 14, 32)},
		{"a greatest tick that is felt only back", windowFly(2, 9, spansOf(0, 14, 0, 30, 0, 8)), spansOf(0, 4, 2, 6, 4, 8)},
		{"a least tick that is felt only back", windowFly(2, 9, spansOf(0, 14, 0, 30, 25, 60)), spansOf(7, 14, 16, 23, 25, 32)},
		{"a greatest tick that is felt forward and back", windowFly(2, 3, spansOf(0, 50, 0, 10, 0, 50)), spansOf(0, 8, 2, 10, 4, 13)},
		{"a least tick that is felt forward and back", windowFly(2, 3, spansOf(0, 50, 30, 60, 0, 70)), spansOf(27, 50, 30, 53, 32, 56)},
		{"one flight alone, the quickest", windowFly(2, 3, spansOf(0, 9, 2, 9, 4, 9, 6, 6)), spansOf(0, 0, 2, 2, 4, 4, 6, 6)},
		{"one flight alone, the slowest", windowFly(2, 3, spansOf(0, 1, 0, 9, 0, 19, 10, 19)), spansOf(1, 1, 4, 4, 7, 7, 10, 10)},
		{"one flight alone, in between", windowFly(2, 4, spansOf(0, 9, 3, 3, 6, 6, 9, 9)), spansOf(0, 1, 3, 3, 6, 6, 9, 9)},
	} {
		wantSpans(t, c.what, c.p, c.want)
	}
}

func TestSpansOfPathsThatAreNotOk(t *testing.T) {
	wantSpans(t, "as it is", smallFly(), spansOf(10, 20, 12, 25, 14, 60, 16, 65))
	for what, p := range brokenFlies() {
		wantSpans(t, what, p, nil)
	}
}

// No flight, or just one, in the first, a middle, and the last place: a window may end just when the quickest come, and
// begin just when the slowest do.
func TestSpansOfPathsWithoutFlights(t *testing.T) {
	kind := impl.FlyKind{Quick: 3, Slow: 5}
	for steps := 1; steps <= 7; steps++ {
		for place := 1; place <= steps; place++ {
			early := straightFly(kind, steps, 0, 1000)
			early.Steps[0].From = 100
			quickest, slowest := 100+3*place, 100+5*place
			wantSpans(t, "it ends too early", squeezed(early, place, 0, quickest-1), nil)
			wantSpans(t, "it ends at tick 0", squeezed(early, place, 0, 0), nil)
			p := squeezed(early, place, 0, quickest)
			wantSpans(t, "it ends just in time", p, spansByBounds(p))
			if spans, _ := impl.FlySpans(p); len(spans) == 0 || spans[0] != (impl.FlySpan{Low: 100, High: 100}) || spans[place] != (impl.FlySpan{Low: quickest, High: quickest}) {
				t.Errorf("only the quickest come to %d of %d: %v", place, steps, spans)
			}
			late := straightFly(kind, steps, 0, 1000)
			late.Steps[0].By = 100
			wantSpans(t, "it begins too late", squeezed(late, place, slowest+1, 1000), nil)
			wantSpans(t, "it begins at the end", squeezed(late, place, 1000, 1000), nil)
			p = squeezed(late, place, slowest, 1000)
			wantSpans(t, "it begins just in time", p, spansByBounds(p))
			if spans, _ := impl.FlySpans(p); len(spans) == 0 || spans[0] != (impl.FlySpan{Low: 100, High: 100}) || spans[place] != (impl.FlySpan{Low: slowest, High: slowest}) {
				t.Errorf("only the slowest come to %d of %d: %v", place, steps, spans)
			}
		}
	}
	// The first window itself is too late for all behind it, or too early.
	wantSpans(t, "the first too late", windowFly(3, 5, spansOf(98, 98, 0, 100, 0, 1000)), nil)
	wantSpans(t, "the first just in time", windowFly(3, 5, spansOf(97, 98, 0, 100, 0, 1000)), spansOf(97, 97, 100, 100, 103, 105))
	wantSpans(t, "the first too early", windowFly(3, 5, spansOf(0, 94, 100, 200, 0, 1000)), nil)
	wantSpans(t, "the first just late enough", windowFly(3, 5, spansOf(0, 95, 100, 200, 0, 1000)), spansOf(95, 95, 100, 100, 103, 105))
	wantSpans(t, "the first cannot be so late", windowFly(3, 5, spansOf(10000, 10000, 0, 10000)), nil)
	// Each two windows that follow each other can be met, but not all of them together.
	wantSpans(t, "never all", windowFly(3, 5, spansOf(0, 0, 0, 10, 11, 20)), nil)
	wantSpans(t, "never all, too early", windowFly(3, 5, spansOf(10, 10, 0, 20, 0, 15)), nil)
	wantSpans(t, "two steps from one to another", windowFly(3, 5, spansOf(0, 0, 0, 10, 0, 15, 16, 30)), nil)
	wantSpans(t, "just all", windowFly(3, 5, spansOf(0, 0, 0, 10, 0, 15, 15, 30)), spansOf(0, 0, 5, 5, 10, 10, 15, 15))
}

func TestSpansOfOneStep(t *testing.T) {
	for from := 0; from <= 12; from++ {
		for wide := range 4 {
			for endFrom := 0; endFrom <= 20; endFrom++ {
				for endWide := range 4 {
					p := windowFly(4, 6, spansOf(from, from+wide, endFrom, endFrom+endWide))
					wantSpans(t, "one step", p, spansOfFlights(flightsByTrying(p)))
					p.Steps[0].Hold = true
					wantSpans(t, "one step, with Hold", p, spansOfFlights(flightsByTrying(p)))
				}
			}
		}
	}
}

// As many steps as there may be, and a bound that is felt through all of them, from each end.
func TestSpansOfFortySteps(t *testing.T) {
	p := straightFly(impl.FlyKind{Quick: 2, Slow: 3}, 40, 0, 10000)
	p.Steps[0].From, p.Steps[0].By = 50, 60
	var forward, back []impl.FlySpan
	for k := range 41 {
		forward = append(forward, impl.FlySpan{Low: 50 + 2*k, High: 60 + 3*k})
		back = append(back, impl.FlySpan{Low: 500 - 3*(40-k), High: 510 - 2*(40-k)})
	}
	wantSpans(t, "from the first on", p, forward)
	p.Steps[0].From, p.Steps[0].By, p.From, p.By = 0, 10000, 500, 510
	wantSpans(t, "from the last back", p, back)
	p.Steps = append(p.Steps, impl.FlyStep{X: 0, Y: 8, By: 10000})
	wantSpans(t, "forty-one", p, nil)
	// At all limits: who leaves at 0 and flies as quickly as may be is there at 2000.
	full := fullFly()
	var spans []impl.FlySpan
	for k := range 41 {
		spans = append(spans, impl.FlySpan{Low: 50 * k, High: 10000 - 50*(40-k)})
	}
	wantSpans(t, "at each limit", full, spans)
	full.By = 2000
	for k := range spans {
		spans[k].High = 50 * k
	}
	wantSpans(t, "one flight alone", full, spans)
	full.By = 1999
	wantSpans(t, "one tick less", full, nil)
	full = fullFly()
	full.From, full.Steps[0].By = 10000, 8000
	for k := range spans {
		spans[k] = impl.FlySpan{Low: 8000 + 50*k, High: 8000 + 50*k}
	}
	wantSpans(t, "one flight alone, at the end", full, spans)
	full.Steps[0].By = 7999
	wantSpans(t, "one tick less to leave", full, nil)
	full.Steps[39].Hold = true
	wantSpans(t, "with Hold in the last", full, spansByBounds(full))
	if last := impl.FlyLast(full); len(last) != 41 || last[0] != 7999 || last[39] != 7999+39*50 || last[40] != 10000 {
		t.Errorf("with Hold in the last: %v", last)
	}
}

// With windows of one tick there is just the flight that they tell, or none.
func TestSpansOfWindowsOfOneTick(t *testing.T) {
	lawful := 0
	for a := range 9 {
		for b := range 9 {
			for c := range 12 {
				for hold := range 4 {
					p := windowFly(2, 4, spansOf(a, a, b, b, c, c))
					p.Steps[0].Hold, p.Steps[1].Hold = hold&1 > 0, hold&2 > 0
					var want []impl.FlySpan
					if b-a >= 2 && (b-a <= 4 || hold&1 > 0) && c-b >= 2 && (c-b <= 4 || hold&2 > 0) {
						want = spansOf(a, a, b, b, c, c)
						lawful++
					}
					wantSpans(t, "one tick each", p, want)
				}
			}
		}
	}
	if lawful < 100 {
		t.Errorf("%d flights", lawful)
	}
}

// A step with Hold lets no greatest tick through forward, and no least one back.
func TestSpansOfHold(t *testing.T) {
	windows := spansOf(0, 4, 0, 900, 0, 900, 700, 900)
	wantSpans(t, "none", windowFly(2, 3, windows), nil)
	wantSpans(t, "in the first", windowFly(2, 3, windows, 0), spansOf(0, 4, 694, 896, 697, 898, 700, 900))
	wantSpans(t, "in the middle", windowFly(2, 3, windows, 1), spansOf(0, 4, 2, 7, 697, 898, 700, 900))
	wantSpans(t, "in the last", windowFly(2, 3, windows, 2), spansOf(0, 4, 2, 7, 4, 10, 700, 900))
	wantSpans(t, "in the first and the last", windowFly(2, 3, windows, 0, 2), spansOf(0, 4, 2, 896, 4, 898, 700, 900))
	wantSpans(t, "in all", windowFly(2, 3, windows, 0, 1, 2), spansOf(0, 4, 2, 896, 4, 898, 700, 900))
	// It lets Quick through all the same.
	wantSpans(t, "in all, too quick", windowFly(2, 3, spansOf(5, 9, 0, 900, 0, 900, 0, 10), 0, 1, 2), nil)
	wantSpans(t, "in all, just quick", windowFly(2, 3, spansOf(5, 9, 0, 900, 0, 900, 0, 11), 0, 1, 2), spansOf(5, 5, 7, 7, 9, 9, 11, 11))
	// From the first tick there is to the last one.
	wantSpans(t, "as long as can be", windowFly(1, 1, spansOf(0, 0, 10000, 10000), 0), spansOf(0, 0, 10000, 10000))
	wantSpans(t, "as long as can be, without", windowFly(1, 50, spansOf(0, 0, 10000, 10000)), nil)
	wantSpans(t, "as long as can be, then one on", windowFly(1, 1, spansOf(0, 0, 0, 10000, 10000, 10000), 0), spansOf(0, 0, 9999, 9999, 10000, 10000))
	for steps := 1; steps <= 6; steps++ {
		for holds := range 1 << steps {
			p := straightFly(impl.FlyKind{Quick: 2, Slow: 3}, steps, 0, 10000)
			for k := range steps {
				p.Steps[k].Hold = holds>>k&1 > 0
			}
			p.Steps[0].By, p.From = 4, 700
			wantSpans(t, fmt.Sprintf("Hold in %b of %d", holds, steps), p, spansByBounds(p))
			if _, ok := impl.FlySpans(p); ok != (holds > 0) {
				t.Errorf("Hold in %b of %d steps: %v", holds, steps, ok)
			}
		}
	}
}

// If there is but one stay, one tick tells all others; Hold lets those behind it be later.
func TestSpansOfQuickTheSameAsSlow(t *testing.T) {
	for _, stay := range []int{1, 2, 7, 50} {
		for steps := 1; steps <= 40; steps++ {
			for _, place := range []int{0, steps / 2, steps} {
				p := squeezed(straightFly(impl.FlyKind{Quick: stay, Slow: stay}, steps, 0, 10000), place, 5000, 5003)
				var want, held []impl.FlySpan
				for k := range steps + 1 {
					at := 5000 + stay*(k-place)
					want = append(want, impl.FlySpan{Low: at, High: at + 3})
					held = append(held, impl.FlySpan{Low: at, High: at + 3})
					if k < place {
						held[k].Low = stay * k
					}
					if k > place {
						held[k].High = 10000 - stay*(steps-k)
					}
				}
				wantSpans(t, "one stay", p, want)
				for k := range p.Steps {
					p.Steps[k].Hold = true
				}
				wantSpans(t, "one stay, with Hold", p, held)
			}
		}
	}
}

// wantFirstAndLast asks for promise 20, and that spans are told just if there is some flight.
func wantFirstAndLast(t *testing.T, p impl.FlyPath, flights ...[]int) {
	t.Helper()
	first, last := impl.FlyFirst(p), impl.FlyLast(p)
	if !lawfulByClock(p, first) || !lawfulByClock(p, last) || !impl.FlyLawful(p, first) || !impl.FlyLawful(p, last) {
		t.Errorf("%v and %v do not keep to %+v", first, last, p)
		return
	}
	for _, flight := range flights {
		for k, tick := range flight {
			if tick < first[k] || tick > last[k] {
				t.Errorf("%v is not between %v and %v along %+v", flight, first, last, p)
			}
		}
	}
}

// Spans are held against all flights along small paths, tick by tick: each tick of each span is that of one of them.
func TestSpansOfAllFlights(t *testing.T) {
	r := rand.New(rand.NewPCG(24, 1))
	count := map[bool]int{}
	for range 4000 {
		p := drawTightFly(r)
		all := flightsByTrying(p)
		count[len(all) > 0]++
		wantSpans(t, "a small path", p, spansOfFlights(all))
		if len(all) == 0 {
			continue
		}
		wantFirstAndLast(t, p, all...)
		spans, _ := impl.FlySpans(p)
		for k, s := range spans {
			found := map[int]bool{}
			for _, flight := range all {
				found[flight[k]] = true
			}
			if len(found) != s.High-s.Low+1 {
				t.Errorf("%d ticks of %v are flown at %d along %+v", len(found), s, k, p)
			}
		}
	}
	if count[true] < 1000 || count[false] < 500 {
		t.Errorf("too few of one kind: %v", count)
	}
}

// Long paths too, and such as are no longer ok, or have no flight any more.
func TestSpansAtRandom(t *testing.T) {
	r := rand.New(rand.NewPCG(24, 2))
	count := map[bool]int{}
	for range 3000 {
		p, flight := drawFly(r)
		wantSpans(t, "made round a flight", p, spansByBounds(p))
		if r.IntN(4) == 0 {
			wantFirstAndLast(t, p, flight)
		}
		for range 3 {
			bendFly(r, &p)
			want := spansByBounds(p)
			count[want != nil]++
			wantSpans(t, "bent", p, want)
		}
	}
	if count[true] < 1000 || count[false] < 1000 {
		t.Errorf("too few of one kind: %v", count)
	}
}

// Each tick of each span is that of some flight that keeps to the path, and one past it of none.
func TestSpansAreTight(t *testing.T) {
	r := rand.New(rand.NewPCG(24, 3))
	for range 1500 {
		p, _ := drawFly(r)
		spans, _ := impl.FlySpans(p)
		for k, s := range spans {
			for _, tick := range []int{s.Low, s.High, drawBetween(r, s.Low, s.High)} {
				flight := someFlightOf(squeezed(p, k, tick, tick))
				if len(flight) == 0 || flight[k] != tick || !impl.FlyLawful(p, flight) {
					t.Errorf("no flight has %d at %d along %+v", tick, k, p)
				}
			}
			if someFlightOf(squeezed(p, k, 0, s.Low-1)) != nil || someFlightOf(squeezed(p, k, s.High+1, 10000)) != nil {
				t.Errorf("some flight is not in %v at %d along %+v", s, k, p)
			}
		}
	}
}

// someFlies are paths to be asked about memory.
func someFlies() []impl.FlyPath {
	paths := []impl.FlyPath{smallFly(), fullFly(), windowFly(2, 3, spansOf(0, 9, 2, 9, 4, 9, 6, 6)), windowFly(3, 5, spansOf(0, 0, 0, 10, 11, 20)), windowFly(1, 1, spansOf(0, 0, 1, 1))}
	for _, p := range brokenFlies() {
		paths = append(paths, p)
	}
	return paths
}

func TestSpansAndTubesLeavePathsAsTheyAre(t *testing.T) {
	for _, path := range someFlies() {
		p := fenceFly(path)
		before := wholeFly(p)
		spans, ok := impl.FlySpans(p)
		again, okAgain := impl.FlySpans(p)
		first, last, tube := impl.FlyFirst(p), impl.FlyLast(p), impl.FlyTube(p)
		answers := []any{spans, again, first, last, tube, impl.FlyFirst(p), impl.FlyLast(p), impl.FlyTube(p)}
		if ok != okAgain || !slices.Equal(spans, again) {
			t.Errorf("another answer the second time, of %+v", path)
		}
		wantNewMemory(t, "spans and tubes", answers, p)
		// What is written into one answer, its spare room included, is in no other one.
		spans, first, last, tube = spans[:cap(spans)], first[:cap(first)], last[:cap(last)], tube[:cap(tube)]
		clear(spans)
		clear(first)
		clear(last)
		clear(tube)
		wantSpans(t, "behind answers that were written into", p, again)
		if !reflect.DeepEqual(wholeFly(p), before) {
			t.Errorf("written into: %+v", path)
		}
	}
}
