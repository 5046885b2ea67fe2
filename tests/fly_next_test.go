package tests

import (
	"fmt"
	"math"
	"math/rand/v2"
	"reflect"
	"slices"
	"testing"

	"loop.example/lapwing/impl"
)

// wantNext asks when a flight can go on; with two ticks wanted from the one to the other, with none not at all.
func wantNext(t *testing.T, what string, p impl.FlyPath, begun []int, want ...int) {
	t.Helper()
	var span impl.FlySpan
	if len(want) > 0 {
		span = impl.FlySpan{Low: want[0], High: want[1]}
	}
	if got, ok := impl.FlyNext(p, begun); got != span || ok != (len(want) > 0) {
		t.Errorf("%s: FlyNext is %v, %v, not %v, behind %v along %+v", what, got, ok, want, begun, p)
	}
}

// wantGo asks for a flight that goes on; no ticks are wanted if there is none.
func wantGo(t *testing.T, what string, p impl.FlyPath, begun, asked, want []int) {
	t.Helper()
	if got, ok := impl.FlyGo(p, begun, asked); !slices.Equal(got, want) || ok != (len(want) > 0) {
		t.Errorf("%s: FlyGo is %v, %v, not %v, behind %v, asked %v, along %+v", what, got, ok, want, begun, asked, p)
	}
}

// ticksBehind are those that stand behind what has begun in any of some flights.
func ticksBehind(all [][]int, begun []int) []int {
	var ticks []int
	for _, flight := range all {
		if len(begun) < len(flight) && slices.Equal(flight[:len(begun)], begun) {
			ticks = append(ticks, flight[len(begun)])
		}
	}
	slices.Sort(ticks)
	return slices.Compact(ticks)
}

// nextByBounds says what chapter 26 says of FlyNext, in another way, also of long paths; nothing, if it is false.
func nextByBounds(p impl.FlyPath, begun []int) []int {
	if !flyOkByRules(p) || len(begun) > len(p.Steps) {
		return nil
	}
	for place, tick := range begun {
		p = squeezed(p, place, tick, tick)
	}
	spans := spansByBounds(p)
	if spans == nil {
		return nil
	}
	return []int{spans[len(begun)].Low, spans[len(begun)].High}
}

// farApart is how far two numbers are apart, wherever they are.
func farApart(a, b int) uint {
	return uint(max(a, b)) - uint(min(a, b))
}

// goByTrying says what chapter 26 says of FlyGo, in another way: among all flights that there are.
func goByTrying(all [][]int, begun, asked []int) []int {
	flight := slices.Clone(begun)
	for {
		ticks := ticksBehind(all, flight)
		if len(ticks) == 0 {
			break
		}
		best := ticks[0]
		if k := len(flight) - len(begun); k < len(asked) {
			for _, tick := range ticks {
				if farApart(tick, asked[k]) < farApart(best, asked[k]) {
					best = tick
				}
			}
		}
		flight = append(flight, best)
	}
	if !slices.ContainsFunc(all, func(one []int) bool { return slices.Equal(one, flight) }) {
		return nil
	}
	return flight
}

func TestNextByHand(t *testing.T) {
	p := smallFly()
	wantNext(t, "nothing begun", p, nil, 10, 20)
	wantNext(t, "an empty list", p, []int{}, 10, 20)
	wantNext(t, "one", p, []int{14}, 16, 19)
	wantNext(t, "one, as early as can be", p, []int{10}, 12, 15)
	wantNext(t, "one, as late as can be", p, []int{20}, 22, 25)
	wantNext(t, "all but one, with Hold in the last of them", p, []int{14, 16}, 18, 60)
	wantNext(t, "all steps", p, []int{14, 16, 30}, 32, 35)
	wantNext(t, "all steps, as early as can be", p, []int{10, 12, 14}, 16, 19)
	wantNext(t, "all steps, as late as can be", p, []int{20, 25, 60}, 62, 65)
	wantNext(t, "its end, too", p, []int{14, 16, 30, 33})
	wantNext(t, "one tick more than there are", p, []int{14, 16, 30, 33, 35})
	p.Steps[1].Hold = false
	wantNext(t, "all but one, without Hold", p, []int{14, 16}, 18, 21)
	p.Steps[2].Hold = true
	wantNext(t, "all steps, with Hold in the last", p, []int{14, 16, 20}, 22, 65)
	p.From, p.By = 35, 36
	wantNext(t, "the end tells it", p, []int{14, 16, 20}, 35, 36)
	p.Steps[2].Hold = false
	wantNext(t, "it cannot come to the end", p, []int{14, 16, 20})
	wantNext(t, "one that cannot come to the end", p, []int{19})
	wantNext(t, "one that can just come to the end", p, []int{20}, 25, 25)
	wantNext(t, "two that can just come to the end", p, []int{20, 25}, 30, 30)
	wantNext(t, "two that cannot come to the end", p, []int{20, 24})
}

func TestNextOfPathsThatAreNotOk(t *testing.T) {
	wantNext(t, "as it is", smallFly(), []int{12, 15, 18}, 20, 23)
	for what, p := range brokenFlies() {
		// What has begun would put each window right that is none.
		flight := []int{12, 15, 18, 21}
		for size := range len(flight) + 1 {
			wantNext(t, what, p, flight[:size])
			wantGo(t, what, p, flight[:size], nil, nil)
			wantGo(t, what, p, flight[:size], []int{12, 15, 18, 21}, nil)
		}
		for _, begun := range [][]int{{0}, {0, 1}, {-1}, {20, 22, 24}, make([]int, 40), make([]int, 50)} {
			wantNext(t, what, p, begun)
			wantGo(t, what, p, begun, nil, nil)
		}
	}
	// All but the last of as many steps as there may be, and one more.
	long := straightFly(impl.FlyKind{Quick: 1, Slow: 2}, 41, 0, 100)
	var flight []int
	for tick := range 42 {
		flight = append(flight, tick)
	}
	for size := range 43 {
		wantNext(t, "too many steps", long, flight[:size])
		wantGo(t, "too many steps", long, flight[:size], nil, nil)
	}
	long.Steps = long.Steps[:40]
	for size := range 41 {
		least, most := size, size+1
		if size == 0 {
			most = 60
		}
		wantNext(t, "forty steps", long, flight[:size], least, most)
		wantGo(t, "forty steps", long, flight[:size], nil, flight[:41])
	}
}

// As many ticks as there may have begun, and more; then there is nothing to go on with.
func TestNextOfListsOfOtherSizes(t *testing.T) {
	for _, steps := range []int{1, 2, 3, 7, 40} {
		p := straightFly(impl.FlyKind{Quick: 2, Slow: 3}, steps, 0, 1000)
		var flight []int
		for k := range 60 {
			flight = append(flight, 2*k)
		}
		for size := range flight {
			what := fmt.Sprint(size, " ticks, ", steps, " steps")
			if size == 0 {
				wantNext(t, what, p, nil, 0, 1000-2*steps)
			} else if size <= steps {
				wantNext(t, what, p, flight[:size], 2*size, 2*size+1)
			} else {
				wantNext(t, what, p, flight[:size])
			}
			if size <= steps+1 {
				wantGo(t, what, p, flight[:size], nil, flight[:steps+1])
			} else {
				wantGo(t, what, p, flight[:size], nil, nil)
			}
		}
		wantNext(t, "very many", p, make([]int, 5000))
		wantGo(t, "very many", p, make([]int, 5000), nil, nil)
	}
}

// What has begun may be at both ends of a window, and not one past them, in each place.
func TestNextBreaksAWindow(t *testing.T) {
	for steps := 1; steps <= 6; steps++ {
		for place := range steps {
			p := straightFly(impl.FlyKind{Quick: 10, Slow: 50}, steps, 0, 1000)
			var flight []int
			for k := range steps {
				flight = append(flight, 100+30*k)
			}
			tick := flight[place]
			for _, c := range []struct {
				from, by int
				ok       bool
			}{
				{tick, tick, true}, {tick, 1000, true}, {0, tick, true}, {tick - 1, tick + 1, true},
				{tick + 1, 1000, false}, {tick + 1, tick + 1, false}, {0, tick - 1, false}, {tick - 1, tick - 1, false}, {0, 0, false}, {1000, 1000, false},
			} {
				p.Steps[place].From, p.Steps[place].By = c.from, c.by
				for size := place + 1; size <= steps; size++ {
					what := fmt.Sprint("window ", c.from, " to ", c.by, " at ", place, " of ", steps)
					if c.ok {
						wantNext(t, what, p, flight[:size], flight[size-1]+10, flight[size-1]+50)
					} else {
						wantNext(t, what, p, flight[:size])
						wantGo(t, what, p, flight[:size], nil, nil)
					}
				}
			}
		}
	}
}

// Stays of Quick less one, Quick, Slow, and Slow and one more, with Hold and without, in each place; who has begun so
// can't put it right any more.
func TestNextBreaksAStay(t *testing.T) {
	for _, kind := range []impl.FlyKind{{Quick: 1, Slow: 1}, {Quick: 3, Slow: 5}, {Quick: 50, Slow: 50}} {
		for steps := 2; steps <= 5; steps++ {
			for place := range steps - 1 {
				for _, hold := range []bool{false, true} {
					p := straightFly(kind, steps, 0, 2000)
					p.Steps[place].Hold = hold
					for _, stay := range []int{-3, 0, kind.Quick - 1, kind.Quick, kind.Slow, kind.Slow + 1, 500} {
						var begun []int
						tick := 100
						for k := range steps {
							begun = append(begun, tick)
							tick += kind.Quick
							if k == place {
								tick += stay - kind.Quick
							}
						}
						wrong := stay < kind.Quick || stay > kind.Slow && !hold
						for size := 1; size <= steps; size++ {
							what := fmt.Sprint("a stay of ", stay, " at ", place, " of ", steps, ", Hold ", hold)
							last := begun[size-1]
							switch {
							case wrong && size > place+1:
								wantNext(t, what, p, begun[:size])
								wantGo(t, what, p, begun[:size], nil, nil)
							case hold && size == place+1:
								wantNext(t, what, p, begun[:size], last+kind.Quick, 2000-(steps-size)*kind.Quick)
							default:
								wantNext(t, what, p, begun[:size], last+kind.Quick, last+kind.Slow)
							}
						}
					}
				}
			}
		}
	}
}

// What has begun keeps to the path so far, but a later window is out of reach.
func TestNextThatCannotComeToTheEnd(t *testing.T) {
	kind := impl.FlyKind{Quick: 3, Slow: 5}
	for steps := 2; steps <= 6; steps++ {
		for size := 1; size < steps; size++ {
			for place := size; place <= steps; place++ {
				p := straightFly(kind, steps, 0, 500)
				var begun []int
				for k := range size {
					begun = append(begun, 100+4*k)
				}
				last := begun[size-1]
				quick, slow := 3*(place-size+1), 5*(place-size+1)
				next := func(p impl.FlyPath, want ...int) {
					t.Helper()
					wantNext(t, fmt.Sprint(size, " begun, a window at ", place, " of ", steps), p, begun, want...)
					if len(want) == 0 {
						wantGo(t, "it can't go on", p, begun, nil, nil)
					}
				}
				next(squeezed(p, place, 0, last+quick-1))
				next(squeezed(p, place, 0, last+quick), last+3, last+3)
				next(squeezed(p, place, 0, last+slow), last+3, min(last+5, last+slow-3*(place-size)))
				next(squeezed(p, place, last+slow, 500), last+5, last+5)
				next(squeezed(p, place, last+slow+1, 500))
				next(squeezed(p, place, 500, 500))
				next(squeezed(p, place, 0, 0))
			}
		}
	}
}

// Ticks that have begun and ticks that are asked may be any numbers.
func TestNextAndGoAtTheEndsOfInt(t *testing.T) {
	far := append([]int{-1, -50, 10001, 20000}, farNumbers...)
	for _, path := range []impl.FlyPath{smallFly(), straightFly(impl.FlyKind{Quick: 1, Slow: 50}, 3, 0, 10000)} {
		for hold := range 2 {
			p := cloneFly(path)
			for k := range p.Steps {
				p.Steps[k].Hold = hold == 1
			}
			flight := []int{12, 15, 18, 21}
			for place := range flight {
				for _, tick := range far {
					bent := slices.Clone(flight)
					bent[place] = tick
					for size := place + 1; size <= 4; size++ {
						wantNext(t, "one tick far away", p, bent[:size])
						wantGo(t, "one tick far away", p, bent[:size], nil, nil)
						wantGo(t, "one tick far away, and as much asked", p, bent[:size], bent, nil)
					}
					all := []int{tick, tick, tick, tick}
					copy(all, flight[:place])
					wantGo(t, "all ticks from one on far away", p, all, nil, nil)
					if place < 3 {
						wantNext(t, "all ticks from one on far away", p, all[:3])
					}
				}
			}
		}
	}
	first, last := impl.FlyFirst(smallFly()), impl.FlyLast(smallFly())
	for _, tick := range far {
		asked := []int{tick, tick, tick, tick, tick}
		if tick < 0 {
			wantGo(t, "asked far below", smallFly(), nil, asked, first)
		} else {
			wantGo(t, "asked far above", smallFly(), nil, asked, last)
		}
	}
	least, most := math.MinInt, math.MaxInt
	wantGo(t, "asked at both ends", smallFly(), nil, []int{most, least, most, least}, []int{20, 22, 60, 62})
	wantGo(t, "asked at both ends", smallFly(), nil, []int{least, most, least, most}, []int{10, 15, 17, 22})
	wantGo(t, "asked at both ends, some begun", smallFly(), []int{11}, []int{most, most, least}, []int{11, 16, 60, 62})
	// Differences of these wrap round, and would come to a stay that may be.
	p := straightFly(impl.FlyKind{Quick: 1, Slow: 1}, 2, 0, 10000)
	wantNext(t, "from the end of int to its beginning", p, []int{most, least})
	wantGo(t, "from the end of int to its beginning", p, []int{most, least, least + 1}, nil, nil)
}

func TestGoByHand(t *testing.T) {
	p := smallFly()
	for _, c := range []struct {
		what               string
		begun, asked, want []int
	}{
		{"nothing begun, nothing asked", nil, nil, []int{10, 12, 14, 16}},
		{"empty lists", []int{}, []int{}, []int{10, 12, 14, 16}},
		{"nothing begun, all asked", nil, []int{12, 16, 40, 44}, []int{12, 16, 40, 44}},
		{"one begun, nothing asked", []int{13}, nil, []int{13, 15, 17, 19}},
		{"one begun, one asked", []int{13}, []int{17}, []int{13, 17, 19, 21}},
		{"one begun, two asked", []int{13}, []int{17, 50}, []int{13, 17, 50, 52}},
		{"one begun, all asked", []int{13}, []int{17, 50, 54}, []int{13, 17, 50, 54}},
		{"one begun, more asked than are wanted", []int{13}, []int{17, 50, 54, 99, -5}, []int{13, 17, 50, 54}},
		{"two begun, one asked", []int{13, 17}, []int{50}, []int{13, 17, 50, 52}},
		{"all steps begun, nothing asked", []int{13, 17, 50}, nil, []int{13, 17, 50, 52}},
		{"all steps begun, one asked", []int{13, 17, 50}, []int{53}, []int{13, 17, 50, 53}},
		{"all steps begun, asked below the least", []int{13, 17, 50}, []int{51}, []int{13, 17, 50, 52}},
		{"all steps begun, asked above the greatest", []int{13, 17, 50}, []int{56}, []int{13, 17, 50, 55}},
		{"asked at the least", []int{13, 17, 50}, []int{52}, []int{13, 17, 50, 52}},
		{"asked at the greatest", []int{13, 17, 50}, []int{55}, []int{13, 17, 50, 55}},
		{"what is asked first tells the rest", nil, []int{99, 0, 0, 99}, []int{20, 22, 24, 29}},
		{"all begun, nothing asked", []int{13, 17, 50, 53}, nil, []int{13, 17, 50, 53}},
		{"all begun, something asked", []int{13, 17, 50, 53}, []int{1, 2, 3}, []int{13, 17, 50, 53}},
		{"all begun, the end too early", []int{13, 17, 50, 51}, nil, nil},
		{"all begun, the end too late", []int{13, 17, 50, 56}, nil, nil},
		{"all begun, the last step too late", []int{13, 17, 61, 64}, nil, nil},
		{"all begun, the first step too long", []int{13, 19, 50, 53}, nil, nil},
		{"all begun, the first step too early", []int{9, 12, 50, 53}, nil, nil},
		{"one more begun", []int{13, 17, 50, 53, 55}, nil, nil},
		{"one more begun, asked for it", []int{13, 17, 50, 53, 55}, []int{57}, nil},
		{"one begun too early", []int{9}, []int{12, 14, 16}, nil},
		{"one begun too late", []int{21}, []int{23, 25, 27}, nil},
		{"two begun too quick", []int{13, 14}, []int{20, 22}, nil},
		{"two begun too slow", []int{13, 19}, []int{21, 23}, nil},
	} {
		wantGo(t, c.what, p, c.begun, c.asked, c.want)
	}
	never := windowFly(3, 5, spansOf(0, 0, 0, 10, 11, 20))
	wantGo(t, "no flight at all", never, nil, nil, nil)
	wantGo(t, "no flight at all, asked", never, nil, []int{0, 5, 11}, nil)
	wantGo(t, "no flight at all, begun", never, []int{0, 5}, []int{11}, nil)
	wantGo(t, "no flight at all, all begun", never, []int{0, 5, 11}, nil, nil)
}

// What is asked never leads to where it can't go on any more.
func TestGoComesToTheEnd(t *testing.T) {
	p := windowFly(2, 3, spansOf(0, 40, 0, 40, 0, 40, 30, 30))
	wantGo(t, "too early", p, nil, []int{0, 0, 0, 0}, []int{21, 24, 27, 30})
	wantGo(t, "too late", p, nil, []int{99, 99, 99, 99}, []int{24, 26, 28, 30})
	for first := -5; first <= 40; first++ {
		for second := -5; second <= 40; second++ {
			flight, ok := impl.FlyGo(p, nil, []int{first, second})
			if !ok || !lawfulByClock(p, flight) {
				t.Errorf("asked %d and %d: %v, %v", first, second, flight, ok)
				continue
			}
			// From the first there are 6 to 9 ticks up to the end, from the second 4 to 6.
			if flight[0] != max(21, min(24, first)) || flight[1] != max(24, flight[0]+2, min(26, flight[0]+3, second)) {
				t.Errorf("asked %d and %d: %v", first, second, flight)
			}
		}
	}
	p.Steps[0].By = 20
	wantGo(t, "never", p, nil, []int{20, 23, 26}, nil)
}

// wantInTheTube asks for promise 19.
func wantInTheTube(t *testing.T, p impl.FlyPath, flight []int) {
	t.Helper()
	if !impl.FlyLawful(p, flight) || !lawfulByClock(p, flight) {
		t.Errorf("%v does not keep to %+v", flight, p)
		return
	}
	tube := impl.FlyTube(p)
	first, last := flight[0], flight[len(flight)-1]
	for tick := first - 1; tick <= last; tick++ {
		var in []int
		for k := range p.Steps {
			if flight[k] <= tick && tick < flight[k+1] {
				in = append(in, k)
			}
		}
		place, ok := impl.FlyWhere(flight, tick)
		inside := first <= tick && tick < last
		if !inside {
			if ok || len(in) > 0 {
				t.Errorf("at %d %v is in the steps %v, FlyWhere is %d", tick, flight, in, place)
			}
			continue
		}
		if !ok || !slices.Equal(in, []int{place}) {
			t.Errorf("at %d %v is in the steps %v, FlyWhere is %d, %v", tick, flight, in, place, ok)
			continue
		}
		s := p.Steps[place]
		for level := s.Low; level <= s.High; level++ {
			wantWithin(t, tube, s.X, s.Y, level, tick, true)
		}
	}
}

// Both are held against all flights along small paths: a beginning of one of them can be gone on with at just the
// ticks that FlyNext tells (promise 22), and none other can.
func TestNextOfAllFlights(t *testing.T) {
	r := rand.New(rand.NewPCG(26, 1))
	count := map[bool]int{}
	for range 1500 {
		p := drawTightFly(r)
		all := flightsByTrying(p)
		var begun []int
		if len(all) > 0 {
			begun = all[r.IntN(len(all))]
		} else {
			for k := range p.Steps {
				begun = append(begun, drawBetween(r, p.Steps[k].From, p.Steps[k].By))
			}
		}
		for size := range len(begun) + 1 {
			for _, list := range [][]int{begun[:size], bendFlight(r, p, begun[:size])} {
				ticks := ticksBehind(all, list)
				count[len(ticks) > 0]++
				if len(ticks) == 0 {
					wantNext(t, "no such flight", p, list)
					continue
				}
				low, high := ticks[0], ticks[len(ticks)-1]
				wantNext(t, "some flights", p, list, low, high)
				if len(ticks) != high-low+1 {
					t.Errorf("%v are not all ticks from one to another, behind %v along %+v", ticks, list, p)
				}
				for tick := low - 2; tick <= high+2; tick++ {
					on := append(slices.Clone(list), tick)
					_, ok := impl.FlyNext(p, on)
					if len(on) > len(p.Steps) {
						_, ok = impl.FlyGo(p, on, nil)
					}
					if ok != (low <= tick && tick <= high) {
						t.Errorf("going on at %d is %v behind %v along %+v", tick, ok, list, p)
					}
				}
			}
		}
	}
	if count[true] < 2000 || count[false] < 2000 {
		t.Errorf("too few of one kind: %v", count)
	}
}

// drawAsked is so many ticks that may be asked for: near a flight, at times far away.
func drawAsked(r *rand.Rand, flight []int, count int) []int {
	var asked []int
	for range count {
		tick := r.IntN(60)
		if len(flight) > 0 {
			tick = flight[r.IntN(len(flight))] + r.IntN(13) - 6
		}
		if r.IntN(8) == 0 {
			tick = farNumbers[r.IntN(len(farNumbers))]
		}
		asked = append(asked, tick)
	}
	return asked
}

func TestGoOfAllFlights(t *testing.T) {
	r := rand.New(rand.NewPCG(26, 2))
	count := map[bool]int{}
	for range 1500 {
		p := drawTightFly(r)
		all := flightsByTrying(p)
		var flight []int
		if len(all) > 0 {
			flight = all[r.IntN(len(all))]
		}
		for range 6 {
			begun := flight[:r.IntN(len(flight)+1)]
			if r.IntN(4) == 0 {
				begun = bendFlight(r, p, begun)
			}
			asked := drawAsked(r, flight, r.IntN(8))
			want := goByTrying(all, begun, asked)
			count[want != nil]++
			wantGo(t, "a small path", p, begun, asked, want)
			if want != nil {
				wantInTheTube(t, p, want)
			}
		}
	}
	if count[true] < 2000 || count[false] < 1000 {
		t.Errorf("too few of one kind: %v", count)
	}
}

// Long paths too, and such as are no longer ok, or have no flight any more.
func TestNextAndGoAtRandom(t *testing.T) {
	r := rand.New(rand.NewPCG(26, 3))
	count := map[bool]int{}
	for range 1500 {
		p, flight := drawFly(r)
		for range 3 {
			begun := flight[:r.IntN(len(flight)+1)]
			if r.IntN(3) == 0 {
				begun = bendFlight(r, p, begun)
			}
			want := nextByBounds(p, begun)
			wantNext(t, "at random", p, begun, want...)
			asked := drawAsked(r, flight, r.IntN(len(flight)+2))
			gone, ok := impl.FlyGo(p, begun, asked)
			count[ok]++
			if ok != (want != nil || lawfulByClock(p, begun)) {
				t.Errorf("FlyGo is %v behind %v along %+v", ok, begun, p)
			}
			if ok {
				wantGoTickByTick(t, p, begun, asked, gone)
				if gone[len(gone)-1]-gone[0] < 300 {
					wantInTheTube(t, p, gone)
				}
			}
			bendFly(r, &p)
			wantNext(t, "bent", p, begun, nextByBounds(p, begun)...)
		}
	}
	if count[true] < 1500 || count[false] < 1000 {
		t.Errorf("too few of one kind: %v", count)
	}
}

// wantGoTickByTick asks whether each tick of a flight that went on is the nearest to what was asked, of those there were.
func wantGoTickByTick(t *testing.T, p impl.FlyPath, begun, asked, gone []int) {
	t.Helper()
	if len(gone) != len(p.Steps)+1 || !slices.Equal(gone[:len(begun)], begun) {
		t.Errorf("%v does not begin with %v, along %+v", gone, begun, p)
		return
	}
	for k := len(begun); k < len(gone); k++ {
		next := nextByBounds(p, gone[:k])
		if next == nil {
			t.Errorf("%v can't go on at %d along %+v", gone, k, p)
			return
		}
		want := next[0]
		if k-len(begun) < len(asked) {
			between := []int{next[0], asked[k-len(begun)], next[1]}
			slices.Sort(between)
			want = between[1]
		}
		if gone[k] != want {
			t.Errorf("%d at %d, not %d, behind %v, asked %v, along %+v", gone[k], k, want, begun, asked, p)
		}
	}
}

// The least is asked when nothing is: then it is the earliest flight; when always too much is asked, it is the latest.
func TestGoIsFirstAndLast(t *testing.T) {
	r := rand.New(rand.NewPCG(26, 4))
	for range 500 {
		p, flight := drawFly(r)
		late := make([]int, len(flight))
		for k := range late {
			late[k] = math.MaxInt - k
		}
		wantGo(t, "nothing asked", p, nil, nil, impl.FlyFirst(p))
		wantGo(t, "too much asked", p, nil, late, impl.FlyLast(p))
		wantGo(t, "a flight asked", p, nil, flight, flight)
		for size := range len(flight) + 1 {
			wantGo(t, "a flight begun, and the rest of it asked", p, flight[:size], flight[size:], flight)
		}
		wantGo(t, "a flight begun, and one tick more", p, append(slices.Clone(flight), flight[len(flight)-1]+p.Kind.Quick), nil, nil)
	}
}

func TestGoAskedVeryMany(t *testing.T) {
	asked := make([]int, 100000)
	for k := range asked {
		asked[k] = 12 + 3*k
	}
	wantGo(t, "very many asked", smallFly(), nil, asked, []int{12, 15, 18, 21})
	wantGo(t, "very many asked, some begun", smallFly(), []int{12, 15}, asked[2:], []int{12, 15, 18, 21})
	wantGo(t, "very many asked, all begun", smallFly(), []int{12, 15, 18, 21}, asked, []int{12, 15, 18, 21})
}

func TestNextAndGoLeaveAllAsItIs(t *testing.T) {
	for _, path := range someFlies() {
		flights := append(someFlights(), impl.FlyFirst(path), impl.FlyLast(path))
		if first := impl.FlyFirst(path); len(first) > 0 {
			flights = append(flights, first[:1], first[:len(first)-1])
		}
		for _, list := range flights {
			p, begun, asked := fenceFly(path), fenceTicks(list), fenceTicks([]int{30, 20, 10, 40, 50})
			pBefore, begunBefore, askedBefore := wholeFly(p), wholeTicks(begun), wholeTicks(asked)
			span, ok := impl.FlyNext(p, begun)
			again, okAgain := impl.FlyNext(p, begun)
			if span != again || ok != okAgain {
				t.Errorf("FlyNext: another answer the second time, behind %v along %+v", list, path)
			}
			gone, okGone := impl.FlyGo(p, begun, asked)
			goneAgain, okGoneAgain := impl.FlyGo(p, begun, asked)
			if !slices.Equal(gone, goneAgain) || okGone != okGoneAgain {
				t.Errorf("FlyGo: another answer the second time, behind %v along %+v", list, path)
			}
			wantNewMemory(t, "going on", []any{gone, goneAgain}, p, begun, asked)
			clear(gone[:cap(gone)])
			wantGo(t, "behind an answer that was written into", p, begun, asked, goneAgain)
			if !reflect.DeepEqual(wholeFly(p), pBefore) || !slices.Equal(wholeTicks(begun), begunBefore) || !slices.Equal(wholeTicks(asked), askedBefore) {
				t.Errorf("written into %+v, %v or %v", path, list, asked)
			}
		}
	}
}
