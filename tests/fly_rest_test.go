package tests

import (
	"fmt"
	"math"
	"math/rand/v2"
	"reflect"
	"slices"
	"testing"

	"loop.example/lapwing/impl"
)

// leftOf is a path from a step on, with these windows for its ticks.
func leftOf(p impl.FlyPath, step int, windows []impl.FlySpan) impl.FlyPath {
	if len(windows) == 0 {
		return impl.FlyPath{}
	}
	left := impl.FlyPath{Kind: p.Kind, Steps: slices.Clone(p.Steps[step:])}
	for k := range left.Steps {
		left.Steps[k].From, left.Steps[k].By = windows[k].Low, windows[k].High
	}
	left.From, left.By = windows[len(left.Steps)].Low, windows[len(left.Steps)].High
	return left
}

func sameFly(a, b impl.FlyPath) bool {
	return a.Kind == b.Kind && slices.Equal(a.Steps, b.Steps) && a.From == b.From && a.By == b.By
}

func wantRestPath(t *testing.T, what string, p impl.FlyPath, step, entered, now int, want impl.FlyPath, wantOk bool) {
	t.Helper()
	if got, ok := impl.FlyRest(p, step, entered, now); ok != wantOk || !sameFly(got, want) {
		t.Errorf("%s: FlyRest is %+v, %v, not %+v, of step %d, entered at %d, now %d, of %+v", what, got, ok, want, step, entered, now, p)
	}
}

func wantSeenPath(t *testing.T, what string, p impl.FlyPath, step, now int, want impl.FlyPath, wantOk bool) {
	t.Helper()
	if got, ok := impl.FlySeen(p, step, now); ok != wantOk || !sameFly(got, want) {
		t.Errorf("%s: FlySeen is %+v, %v, not %+v, of step %d, now %d, of %+v", what, got, ok, want, step, now, p)
	}
}

// wantRest asks what is left, by its windows; with none of them nothing is.
func wantRest(t *testing.T, what string, p impl.FlyPath, step, entered, now int, windows ...int) {
	t.Helper()
	wantRestPath(t, what, p, step, entered, now, leftOf(p, step, spansOf(windows...)), len(windows) > 0)
}

func wantSeen(t *testing.T, what string, p impl.FlyPath, step, now int, windows ...int) {
	t.Helper()
	wantSeenPath(t, what, p, step, now, leftOf(p, step, spansOf(windows...)), len(windows) > 0)
}

// leftByRules is what chapter 27 says is left for those who entered a step between two ticks, found in another way:
// whether there is a flight along it is told by each of its bounds, not by spans of the program.
func leftByRules(p impl.FlyPath, step, low, high, now int) (impl.FlyPath, bool) {
	left := cloneFly(p)
	left.Steps = left.Steps[step:]
	left = squeezed(squeezed(left, 0, low, high), 1, now+1, 10000)
	if spansByBounds(left) == nil {
		return impl.FlyPath{}, false
	}
	return left, true
}

func restByRules(p impl.FlyPath, step, entered, now int) (impl.FlyPath, bool) {
	if !flyOkByRules(p) || step < 0 || step >= len(p.Steps) || now > 10000 || entered < 0 || entered > now {
		return impl.FlyPath{}, false
	}
	return leftByRules(p, step, entered, entered, now)
}

func seenByRules(p impl.FlyPath, step, now int) (impl.FlyPath, bool) {
	spans := spansByBounds(p)
	if spans == nil || step < 0 || step >= len(p.Steps) || now > 10000 || now < 0 {
		return impl.FlyPath{}, false
	}
	return leftByRules(p, step, spans[step].Low, min(spans[step].High, now), now)
}

// The spans of smallFly are its windows.
func TestRestByHand(t *testing.T) {
	p := smallFly()
	wantRest(t, "just entered", p, 0, 12, 12, 12, 12, 13, 25, 14, 60, 16, 65)
	wantRest(t, "entered as early as can be", p, 0, 10, 10, 10, 10, 12, 25, 14, 60, 16, 65)
	wantRest(t, "entered as late as can be", p, 0, 20, 20, 20, 20, 21, 25, 14, 60, 16, 65)
	wantRest(t, "a while ago", p, 0, 12, 15, 12, 12, 16, 25, 14, 60, 16, 65)
	wantRest(t, "as long ago as may be", p, 0, 12, 16, 12, 12, 17, 25, 14, 60, 16, 65)
	wantRest(t, "too long ago", p, 0, 12, 17)
	wantRest(t, "a middle step", p, 1, 15, 17, 15, 15, 18, 60, 16, 65)
	wantRest(t, "a middle step, just entered", p, 1, 12, 12, 12, 12, 14, 60, 16, 65)
	wantRest(t, "a middle step that holds", p, 1, 15, 59, 15, 15, 60, 60, 16, 65)
	wantRest(t, "a middle step that holds, too long", p, 1, 15, 60)
	wantRest(t, "the last step", p, 2, 30, 31, 30, 30, 32, 65)
	wantRest(t, "the last step, as long ago as may be", p, 2, 30, 34, 30, 30, 35, 65)
	wantRest(t, "the last step, too long ago", p, 2, 30, 35)
	wantRest(t, "the last step, just entered, as early as can be", p, 2, 14, 14, 14, 14, 16, 65)
	wantRest(t, "the last step, as late as can be", p, 2, 60, 64, 60, 60, 65, 65)
	wantRest(t, "the last step, too late", p, 2, 60, 65)
	for step, window := range spansOf(10, 20, 12, 25, 14, 60) {
		for _, entered := range []int{window.Low - 1, window.High + 1, 0, -1, 9999} {
			wantRest(t, "entered outside of the window", p, step, entered, max(entered, 0))
			wantRest(t, "entered outside of the window, a tick ago", p, step, entered, max(entered, 0)+1)
		}
		wantRest(t, "entered above now", p, step, window.Low+1, window.Low)
		wantRest(t, "entered above now, which is 0", p, step, window.Low, 0)
		wantRest(t, "entered above now, which is below 0", p, step, window.Low, -1)
	}
}

func TestSeenByHand(t *testing.T) {
	p := smallFly()
	wantSeen(t, "just come", p, 0, 10, 10, 10, 12, 25, 14, 60, 16, 65)
	wantSeen(t, "a while later", p, 0, 15, 10, 15, 16, 25, 14, 60, 16, 65)
	wantSeen(t, "when the last come", p, 0, 20, 10, 20, 21, 25, 14, 60, 16, 65)
	wantSeen(t, "when the last have come", p, 0, 22, 10, 20, 23, 25, 14, 60, 16, 65)
	wantSeen(t, "when the last go", p, 0, 24, 10, 20, 25, 25, 14, 60, 16, 65)
	wantSeen(t, "when all have gone", p, 0, 25)
	wantSeen(t, "ahead of all", p, 0, 9)
	wantSeen(t, "at 0", p, 0, 0)
	wantSeen(t, "a middle step", p, 1, 30, 12, 25, 31, 60, 16, 65)
	wantSeen(t, "a middle step, just come", p, 1, 12, 12, 12, 14, 60, 16, 65)
	wantSeen(t, "a middle step, ahead of all", p, 1, 11)
	wantSeen(t, "a middle step, when the last go", p, 1, 59, 12, 25, 60, 60, 16, 65)
	wantSeen(t, "a middle step, when all have gone", p, 1, 60)
	wantSeen(t, "the last step", p, 2, 30, 14, 30, 31, 65)
	wantSeen(t, "the last step, just come", p, 2, 14, 14, 14, 16, 65)
	wantSeen(t, "the last step, ahead of all", p, 2, 13)
	wantSeen(t, "the last step, when the last go", p, 2, 64, 14, 60, 65, 65)
	wantSeen(t, "the last step, when all have gone", p, 2, 65)
}

// The window of the first step is wider than its span, as wide, or begins or ends with it alone. What is known of an
// entry that was not seen is the span, whatever the window says; an entry that was seen is in the window, whatever the
// span says.
func TestLeftOfWindowsAndSpans(t *testing.T) {
	for _, c := range []struct{ from, by int }{{0, 100}, {7, 9}, {0, 9}, {7, 100}, {6, 10}} {
		p := windowFly(2, 3, spansOf(5, 6, c.from, c.by, 0, 200, 0, 300))
		wantSpans(t, "the spans", p, spansOf(5, 6, 7, 9, 9, 12, 11, 15))
		wantSeen(t, "ahead of all", p, 1, 6)
		wantSeen(t, "just come", p, 1, 7, 7, 7, 8, 200, 0, 300)
		wantSeen(t, "a tick later", p, 1, 8, 7, 8, 9, 200, 0, 300)
		wantSeen(t, "when the last come", p, 1, 9, 7, 9, 10, 200, 0, 300)
		wantSeen(t, "when the last go", p, 1, 11, 7, 9, 12, 200, 0, 300)
		wantSeen(t, "when all have gone", p, 1, 12)
		for entered := range 102 {
			if entered < c.from || entered > c.by {
				wantRest(t, "outside of the window", p, 1, entered, entered)
				continue
			}
			wantRest(t, "within the window", p, 1, entered, entered, entered, entered, entered+1, 200, 0, 300)
		}
	}
	// The span of the first step of all is told by those behind it.
	p := windowFly(2, 3, spansOf(0, 100, 0, 100, 50, 51))
	wantSpans(t, "the spans", p, spansOf(44, 47, 47, 49, 50, 51))
	wantSeen(t, "ahead of all", p, 0, 43)
	wantSeen(t, "just come", p, 0, 44, 44, 44, 45, 100, 50, 51)
	wantSeen(t, "when the last go", p, 0, 48, 44, 47, 49, 100, 50, 51)
	wantSeen(t, "when all have gone", p, 0, 49)
	wantRest(t, "too early for those behind it", p, 0, 43, 43)
	wantRest(t, "just in time for those behind it", p, 0, 44, 44, 44, 44, 45, 100, 50, 51)
	// There may be no flight along the path, but one along what is left of it for who is there all the same.
	for _, never := range []impl.FlyPath{windowFly(3, 5, spansOf(98, 98, 0, 100, 0, 1000)), windowFly(3, 5, spansOf(0, 0, 50, 100, 0, 1000))} {
		wantSpans(t, "no flight", never, nil)
		wantRest(t, "no flight along the path", never, 1, 60, 61, 60, 60, 62, 1000)
		wantRest(t, "no flight along the path", never, 0, never.Steps[0].From, never.Steps[0].From)
		for now := range 110 {
			wantSeen(t, "no flight along the path", never, 0, now)
			wantSeen(t, "no flight along the path", never, 1, now)
		}
	}
}

// What comes next is behind now, in any case; if it could not begin by then all the same, its window stays.
func TestLeftWhenTheNextIsLater(t *testing.T) {
	p := windowFly(2, 50, spansOf(10, 10, 20, 90, 40, 90, 45, 99))
	for now := 10; now <= 59; now++ {
		from := []int{20, now + 1}
		wantRest(t, "the first", p, 0, 10, now, 10, 10, slices.Max(from), 90, 40, 90, 45, 99)
		wantSeen(t, "the first", p, 0, now, 10, 10, slices.Max(from), 90, 40, 90, 45, 99)
	}
	wantRest(t, "the first, too long", p, 0, 10, 60)
	wantSeen(t, "the first, too long", p, 0, 60)
	for now := 40; now <= 89; now++ {
		wantRest(t, "the last", p, 2, 40, now, 40, 40, max(45, now+1), 99)
		wantSeen(t, "the last", p, 2, now, 40, min(90, now), max(45, now+1), 99)
	}
	wantRest(t, "the last, too long", p, 2, 40, 90)
	// Only the tick next to the step is moved: that behind it stays, though nobody can be so early.
	p = windowFly(2, 3, spansOf(0, 90, 0, 90, 0, 90, 0, 99))
	wantRest(t, "all behind", p, 0, 50, 51, 50, 50, 52, 90, 0, 90, 0, 99)
	wantSeen(t, "all behind", p, 1, 51, 2, 51, 52, 90, 0, 99)
}

// One step alone: what is behind it is the end of the path.
func TestLeftOfOneStep(t *testing.T) {
	p := windowFly(4, 6, spansOf(10, 12, 15, 17))
	for entered := 8; entered <= 14; entered++ {
		for now := 8; now <= 20; now++ {
			// It is left from 15 to 17, 4 to 6 ticks behind its entry, and behind now.
			leave := []int{}
			for tick := 15; tick <= 17; tick++ {
				if tick-entered >= 4 && tick-entered <= 6 && tick > now {
					leave = append(leave, tick)
				}
			}
			if entered < 10 || entered > 12 || entered > now || len(leave) == 0 {
				wantRest(t, "one step", p, 0, entered, now)
				continue
			}
			wantRest(t, "one step", p, 0, entered, now, entered, entered, max(15, now+1), 17)
		}
	}
	p.Steps[0].Hold = true
	p.By = 50
	wantRest(t, "one step that holds", p, 0, 11, 49, 11, 11, 50, 50)
	wantRest(t, "one step that holds, too long", p, 0, 11, 50)
	wantSeen(t, "one step that holds", p, 0, 49, 10, 12, 50, 50)
	wantSeen(t, "one step that holds, too long", p, 0, 50)
}

func TestLeftOfPathsThatAreNotOk(t *testing.T) {
	ticks := []int{0, 5, 10, 12, 15, 18, 20, 30}
	for what, p := range brokenFlies() {
		for step := -1; step <= len(p.Steps); step++ {
			for _, now := range ticks {
				wantSeen(t, what, p, step, now)
				for _, entered := range ticks {
					wantRest(t, what, p, step, entered, now)
				}
			}
		}
	}
	// As many steps as there may be, and one more; what is left of these would be few enough.
	long := straightFly(impl.FlyKind{Quick: 1, Slow: 2}, 41, 0, 10000)
	for step := range 41 {
		wantRest(t, "too many steps", long, step, 100, 100)
		wantSeen(t, "too many steps", long, step, 100)
	}
	long.Steps = long.Steps[:40]
	for step := range 40 {
		left, ok := impl.FlyRest(long, step, 100, 100)
		if !ok || len(left.Steps) != 40-step || left.Steps[0] != (impl.FlyStep{X: step % 2, Y: 7, From: 100, By: 100}) {
			t.Errorf("step %d of forty: %+v, %v", step, left, ok)
		}
		left, ok = impl.FlySeen(long, step, 100)
		if !ok || len(left.Steps) != 40-step || left.Steps[0] != (impl.FlyStep{X: step % 2, Y: 7, From: step, By: 100}) {
			t.Errorf("step %d of forty: %+v, %v", step, left, ok)
		}
	}
}

func TestLeftOfStepsThatAreNone(t *testing.T) {
	for _, p := range []impl.FlyPath{smallFly(), fullFly(), windowFly(4, 6, spansOf(10, 12, 15, 17)), straightFly(impl.FlyKind{Quick: 1, Slow: 50}, 5, 0, 10000)} {
		n := len(p.Steps)
		for _, now := range []int{0, 10, 12, 15, 16, 100, 5000} {
			for _, step := range append([]int{-1, -2, -n, n, n + 1, 2 * n}, farNumbers...) {
				if step >= 0 && step < n {
					continue
				}
				wantSeen(t, "no such step", p, step, now)
				for _, entered := range []int{0, 10, now} {
					wantRest(t, "no such step", p, step, entered, now)
				}
			}
			for step := range n {
				want, ok := restByRules(p, step, now, now)
				wantRestPath(t, "each step", p, step, now, now, want, ok)
				want, ok = seenByRules(p, step, now)
				wantSeenPath(t, "each step", p, step, now, want, ok)
			}
		}
	}
}

// The ticks that are told may be any numbers; behind the last tick there is, nothing is left.
func TestLeftAtTheEndsOfTicks(t *testing.T) {
	p := straightFly(impl.FlyKind{Quick: 1, Slow: 1}, 1, 0, 10000)
	p.Steps[0].Hold = true
	wantRest(t, "from the first tick on", p, 0, 0, 0, 0, 0, 1, 10000)
	wantSeen(t, "from the first tick on", p, 0, 0, 0, 0, 1, 10000)
	wantRest(t, "up to the last tick", p, 0, 0, 9999, 0, 0, 10000, 10000)
	wantSeen(t, "up to the last tick", p, 0, 9999, 0, 9999, 10000, 10000)
	wantRest(t, "entered last", p, 0, 9999, 9999, 9999, 9999, 10000, 10000)
	wantRest(t, "entered at the last tick", p, 0, 10000, 10000)
	for _, path := range []impl.FlyPath{p, smallFly(), fullFly()} {
		for step := range path.Steps {
			for _, now := range append([]int{-1, -2, 10000, 10001, 20000}, farNumbers...) {
				if now >= 0 && now < 10000 {
					continue
				}
				wantSeen(t, "now far away", path, step, now)
				for _, entered := range []int{-1, 0, 12, 5000, 9999, 10000, 10001, now, math.MaxInt, math.MinInt} {
					wantRest(t, "now far away", path, step, entered, now)
				}
			}
			for _, entered := range append([]int{-1, -2, 10001, 20000}, farNumbers...) {
				if entered >= 0 && entered <= 10000 {
					continue
				}
				for _, now := range []int{0, 12, 20, 5000, 9999, entered} {
					wantRest(t, "entered far away", path, step, entered, now)
				}
			}
		}
	}
}

// flightsFrom are the flights of some that are in a step at a tick, each from this step on, in order and each once; if
// entered is not below 0, only those that entered the step then.
func flightsFrom(all [][]int, step, entered, now int) [][]int {
	var list [][]int
	for _, flight := range all {
		if flight[step] <= now && now < flight[step+1] && (entered < 0 || flight[step] == entered) {
			list = append(list, flight[step:])
		}
	}
	slices.SortFunc(list, slices.Compare[[]int])
	return slices.CompactFunc(list, slices.Equal[[]int])
}

// wantSmallerTube asks whether a tube of what is left from a step on is within another one, box by box.
func wantSmallerTube(t *testing.T, what string, small, great []impl.FlyBox) {
	t.Helper()
	if !smallerTube(small, great) || !impl.FlySmaller(small, great) || len(small) > len(great) {
		t.Errorf("%s: %v is not within %v", what, small, great)
		return
	}
	for k, b := range small {
		if other := great[len(great)-len(small)+k]; !smallerTube([]impl.FlyBox{b}, []impl.FlyBox{other}) {
			t.Errorf("%s: %v is not within %v", what, b, other)
		}
	}
}

// Promise 23, of all that may be in a step of a small path at a tick, held against all flights: along what is left there
// is each of those that are there, from this step on, and no other one.
func wantLeftOfFlights(t *testing.T, p impl.FlyPath, all [][]int, step, now int) bool {
	t.Helper()
	there := flightsFrom(all, step, -1, now)
	seen, ok := impl.FlySeen(p, step, now)
	if ok != (len(there) > 0) {
		t.Errorf("FlySeen is %v, with %v there, of step %d, now %d, of %+v", ok, there, step, now, p)
	}
	if !ok {
		return false
	}
	if found := flightsByTrying(seen); !slices.EqualFunc(found, there, slices.Equal[[]int]) {
		t.Errorf("%v are along what is left, %v are there, of step %d, now %d, of %+v", found, there, step, now, p)
	}
	tube := impl.FlyTube(seen)
	wantSmallerTube(t, "FlySeen", tube, impl.FlyTube(p))
	entries := spansOfFlights(there)[0]
	for entered := max(entries.Low-2, 0); entered <= entries.High+2; entered++ {
		those := flightsFrom(all, step, entered, now)
		if open := entries.Low <= entered && entered <= entries.High; open != (len(those) > 0) {
			t.Errorf("%v entered step %d at %d, but they do from %d to %d, of %+v", those, step, entered, entries.Low, entries.High, p)
		}
		rest, ok := impl.FlyRest(p, step, entered, now)
		if len(those) == 0 {
			continue
		}
		if found := flightsByTrying(rest); !ok || !slices.EqualFunc(found, those, slices.Equal[[]int]) {
			t.Errorf("%v are along what is left, %v are there, of step %d, entered at %d, now %d, of %+v", found, those, step, entered, now, p)
		}
		wantSmallerTube(t, "FlyRest", impl.FlyTube(rest), tube)
		wantSmallerTube(t, "FlyRest", impl.FlyTube(rest), impl.FlyTube(p))
	}
	spans, ok := impl.FlySpans(seen)
	if !ok || spans[0] != entries {
		t.Errorf("FlySeen leaves %v open, but they enter step %d from %d to %d, of %+v", spans, step, entries.Low, entries.High, p)
	}
	return true
}

func TestLeftOfAllFlights(t *testing.T) {
	r := rand.New(rand.NewPCG(27, 1))
	count := map[bool]int{}
	for range 500 {
		p := drawTightFly(r)
		all := flightsByTrying(p)
		if len(all) > 4000 {
			continue
		}
		froms, bys := flyWindowsOf(p)
		for step := range p.Steps {
			for now := max(froms[step]-2, 0); now <= bys[step+1]+1; now++ {
				if r.IntN(3) == 0 {
					count[wantLeftOfFlights(t, p, all, step, now)]++
				}
			}
		}
	}
	if count[true] < 1000 || count[false] < 1000 {
		t.Errorf("too few of one kind: %v", count)
	}
}

// Long paths too, and such as are no longer ok, or have no flight any more.
func TestLeftAtRandom(t *testing.T) {
	r := rand.New(rand.NewPCG(27, 2))
	count := map[string]int{}
	for range 2500 {
		p, flight := drawFly(r)
		for range 4 {
			step := r.IntN(len(flight)+1) - 1
			place := min(max(step, 0), len(flight)-2)
			entered := flight[place] + []int{0, 0, 0, 0, -1, 1, r.IntN(20) - 10}[r.IntN(7)]
			now := flight[place] + r.IntN(1+flight[place+1]-flight[place]) + []int{0, 0, -1, 1, r.IntN(40) - 20}[r.IntN(5)]
			want, ok := restByRules(p, step, entered, now)
			count[fmt.Sprint("rest ", ok)]++
			wantRestPath(t, "at random", p, step, entered, now, want, ok)
			want, ok = seenByRules(p, step, now)
			count[fmt.Sprint("seen ", ok)]++
			wantSeenPath(t, "at random", p, step, now, want, ok)
			bendFly(r, &p)
		}
	}
	for _, what := range []string{"rest true", "rest false", "seen true", "seen false"} {
		if count[what] < 1000 {
			t.Errorf("too few of one kind: %v", count)
		}
	}
}

// Whoever flies along a long path keeps to what is left at each tick, and the tubes lie within one another.
func TestLeftOfAFlight(t *testing.T) {
	r := rand.New(rand.NewPCG(27, 3))
	left := 0
	for range 400 {
		p, flight := drawFly(r)
		tube := impl.FlyTube(p)
		for step := range p.Steps {
			for _, now := range []int{flight[step], flight[step+1] - 1, drawBetween(r, flight[step], flight[step+1]-1)} {
				rest, ok := impl.FlyRest(p, step, flight[step], now)
				seen, okSeen := impl.FlySeen(p, step, now)
				if !ok || !okSeen || !lawfulByClock(rest, flight[step:]) || !lawfulByClock(seen, flight[step:]) {
					t.Errorf("%v is in step %d at %d; %+v or %+v is left of %+v", flight, step, now, rest, seen, p)
					continue
				}
				restTube, seenTube := impl.FlyTube(rest), impl.FlyTube(seen)
				wantSmallerTube(t, "FlyRest", restTube, seenTube)
				wantSmallerTube(t, "FlySeen", seenTube, tube)
				wantWithin(t, restTube, p.Steps[step].X, p.Steps[step].Y, p.Steps[step].Low, now, true)
				open := spansByBounds(seen)[0]
				for _, entered := range []int{open.Low, open.High, drawBetween(r, open.Low, open.High)} {
					if _, ok := impl.FlyRest(p, step, entered, now); !ok {
						t.Errorf("nothing is left of step %d, entered at %d, now %d, of %+v", step, entered, now, p)
					}
				}
				left++
			}
		}
	}
	if left < 3000 {
		t.Errorf("%d times something was left", left)
	}
}

// What is left of what is left is what would have been left at once, seen later.
func TestLeftAgain(t *testing.T) {
	r := rand.New(rand.NewPCG(27, 4))
	for range 500 {
		p, flight := drawFly(r)
		step := r.IntN(len(p.Steps))
		entered := flight[step]
		now := drawBetween(r, entered, flight[step+1]-1)
		later := drawBetween(r, now, flight[step+1]-1)
		rest, _ := impl.FlyRest(p, step, entered, now)
		want, ok := impl.FlyRest(p, step, entered, later)
		wantRestPath(t, "later", rest, 0, entered, later, want, ok)
		wantRestPath(t, "at the same tick", rest, 0, entered, now, rest, true)
	}
}

func TestLeftLeavesPathsAsTheyAre(t *testing.T) {
	for _, path := range someFlies() {
		for step := -1; step <= len(path.Steps); step++ {
			p := fenceFly(path)
			before := wholeFly(p)
			for _, now := range []int{-1, 0, 5, 12, 15, 20, 2000, 10000, math.MaxInt} {
				rest, ok := impl.FlyRest(p, step, now, now)
				seen, okSeen := impl.FlySeen(p, step, now)
				restAgain, okAgain := impl.FlyRest(p, step, now, now)
				seenAgain, okSeenAgain := impl.FlySeen(p, step, now)
				if ok != okAgain || okSeen != okSeenAgain || !sameFly(rest, restAgain) || !sameFly(seen, seenAgain) {
					t.Errorf("another answer the second time, of step %d, now %d, of %+v", step, now, path)
				}
				wantNewMemory(t, "what is left", []any{rest, seen, restAgain, seenAgain}, p)
				clear(rest.Steps[:cap(rest.Steps)])
				clear(seen.Steps[:cap(seen.Steps)])
				wantRestPath(t, "behind an answer that was written into", p, step, now, now, restAgain, okAgain)
				wantSeenPath(t, "behind an answer that was written into", p, step, now, seenAgain, okSeenAgain)
			}
			if !reflect.DeepEqual(wholeFly(p), before) {
				t.Errorf("written into: %+v", path)
			}
		}
	}
}
