package tests

import (
	"fmt"
	"math/rand/v2"
	"reflect"
	"slices"
	"strings"
	"testing"

	"loop.example/lapwing/impl"
)

// planForms are all that a flight needs to stand, of the flight k.
var planForms = []string{"k kind 4 jet", "k time 3 5 60", "k level 2 4", "k route 1 b a c"}

// standingFlight is the flight k that those forms say.
func standingFlight() impl.PlanFlight {
	return impl.PlanFlight{Name: "k", Kind: impl.PlanKind{Name: "jet", Quick: 1, Slow: 2}, From: 5, By: 60, Level: 4, Route: []string{"b", "a", "c"}}
}

// standingBook is a book on smallBase in which the flight k stands, and more is said.
func standingBook(forms ...string) impl.PlanBook {
	return bookOf(smallBase(), said(append(slices.Clone(planForms), forms...)...))
}

// flightByForms says what chapter 16 says, in another way: by all that a book says.
func flightByForms(b impl.PlanBook, name string) (impl.PlanFlight, bool) {
	if !okByRules(b) {
		return impl.PlanFlight{}, false
	}
	values := map[int]string{}
	for _, c := range changesOf(b) {
		if c.Flight == name {
			values[c.What] = c.Value
		}
	}
	if values[1] == "" || values[2] == "" || values[3] == "" || values[4] == "" || values[5] == "closed" {
		return impl.PlanFlight{}, false
	}
	f := impl.PlanFlight{Name: name, Route: strings.Fields(values[4])}
	fmt.Sscan(values[2], &f.From, &f.By)
	fmt.Sscan(values[3], &f.Level)
	for _, k := range b.Base.Kinds {
		if k.Name == values[1] {
			f.Kind = k
		}
	}
	return f, true
}

func sameFlight(a, b impl.PlanFlight) bool {
	a.Route, b.Route = plainList(a.Route), plainList(b.Route)
	return reflect.DeepEqual(a, b)
}

func wantStands(t *testing.T, what string, b impl.PlanBook, name string, want impl.PlanFlight) {
	t.Helper()
	if f, ok := impl.PlanStands(b, name); !ok || !sameFlight(f, want) {
		t.Errorf("%s: %+v, %v, not %+v", what, f, ok, want)
	}
}

func wantStandsNot(t *testing.T, what string, b impl.PlanBook, names ...string) {
	t.Helper()
	for _, name := range names {
		if f, ok := impl.PlanStands(b, name); ok || !sameFlight(f, impl.PlanFlight{}) {
			t.Errorf("%s: %+v, %v of %q", what, f, ok, name)
		}
	}
}

func wantAll(t *testing.T, what string, b impl.PlanBook, want ...impl.PlanFlight) {
	t.Helper()
	got := impl.PlanAll(b)
	if !slices.EqualFunc(got, want, sameFlight) {
		t.Errorf("%s: %+v, not %+v", what, got, want)
	}
}

// checkFlights holds all flights of a book, and some that are none, against what it says. It gives how many stand.
func checkFlights(t *testing.T, b impl.PlanBook) int {
	t.Helper()
	names := []string{"", "a", "zz", "fence"}
	var all []impl.PlanFlight
	for _, e := range b.Entries {
		names = append(names, e.Name, e.Name+"-")
		if f, ok := flightByForms(b, e.Name); ok {
			all = append(all, f)
		}
	}
	for _, name := range names {
		want, wantOk := flightByForms(b, name)
		if f, ok := impl.PlanStands(b, name); ok != wantOk || !sameFlight(f, want) {
			t.Fatalf("%+v, %v, not %+v, %v of %q and %+v", f, ok, want, wantOk, name, b)
		}
	}
	if got := impl.PlanAll(b); !slices.EqualFunc(got, all, sameFlight) {
		t.Fatalf("%+v, not %+v, of %+v", got, all, b)
	}
	return len(all)
}

func TestStandsByHand(t *testing.T) {
	b := standingBook()
	wantStands(t, "all is said", b, "k", standingFlight())
	wantAll(t, "all is said", b, standingFlight())
	wantStandsNot(t, "no such flight", b, "", "j", "l", "kk", "k ", " k", "K", "k-", "jet", "b", "\x00", "\xff", "abcdefghi", strings.Repeat("k", 5000))
	wantStandsNot(t, "nothing is said", impl.PlanBook{Base: smallBase()}, "", "k", "jet", "a")
	wantAll(t, "nothing is said", impl.PlanBook{Base: smallBase()})
	wantStandsNot(t, "nothing at all", impl.PlanBook{}, "", "k")
	wantAll(t, "nothing at all", impl.PlanBook{})
	wantStandsNot(t, "of each something", smallBook(), "d", "m")
	wantAll(t, "of each something", smallBook())
}

// Each of the things left out, alone and with others; one flight has what another lacks.
func TestStandsWithoutSomeOfIt(t *testing.T) {
	for left := range 1 << len(planForms) {
		var forms, others []string
		for i, form := range planForms {
			if left&(1<<i) != 0 {
				forms = append(forms, form)
				continue
			}
			others = append(others, "z"+strings.TrimPrefix(form, "k"))
		}
		for _, state := range []string{"", "k state 1 open", "k state 1 closed"} {
			all := append(slices.Clone(forms), others...)
			if state != "" {
				all = append(all, state)
			}
			b := bookOf(smallBase(), said(all...))
			what := fmt.Sprintf("%q and %q", forms, state)
			if len(forms) == len(planForms) && state != "k state 1 closed" {
				wantStands(t, what, b, "k", standingFlight())
				wantAll(t, what, b, standingFlight())
				continue
			}
			wantStandsNot(t, what, b, "k")
			if len(others) == len(planForms) {
				want := standingFlight()
				want.Name = "z"
				wantStands(t, what, b, "z", want)
				wantAll(t, what, b, want)
				continue
			}
			wantStandsNot(t, what, b, "z")
			wantAll(t, what, b)
		}
	}
}

func TestStandsByItsState(t *testing.T) {
	for _, c := range []struct {
		states []string
		stands bool
	}{
		{nil, true},
		{[]string{"1 open"}, true},
		{[]string{"1000000 open"}, true},
		{[]string{"1 closed"}, false},
		{[]string{"1000000 closed"}, false},
		{[]string{"1 closed", "2 open"}, true},
		{[]string{"2 open", "1 closed"}, true},
		{[]string{"9 closed", "10 open"}, true},
		{[]string{"1 open", "2 closed"}, false},
		{[]string{"2 closed", "1 open"}, false},
		{[]string{"9 open", "10 closed"}, false},
		// With equal numbers the greater value is later, and that is `open`.
		{[]string{"3 closed", "3 open"}, true},
		{[]string{"3 open", "3 closed"}, true},
		{[]string{"1 closed", "2 open", "3 closed"}, false},
		{[]string{"3 open", "1 closed", "2 closed"}, true},
	} {
		text := textOf(planLines(standingBook()))
		for _, state := range c.states {
			text += "set k state " + state + "\n"
		}
		b, f := impl.PlanParse(text)
		if f != (impl.PlanFault{}) {
			t.Fatalf("%+v of %q", f, text)
		}
		if what := fmt.Sprint(c.states); c.stands {
			wantStands(t, what, b, "k", standingFlight())
			wantAll(t, what, b, standingFlight())
		} else {
			wantStandsNot(t, what, b, "k")
			wantAll(t, what, b)
		}
	}
}

func TestStandsWithWhatWasSaidLast(t *testing.T) {
	want := standingFlight()
	want.Kind, want.From, want.By, want.Level, want.Route = smallBase().Kinds[0], 7, 7, 1, []string{"a", "b"}
	last := []string{"k kind 5 glider", "k time 5 7 7", "k level 5 1", "k route 5 a b"}
	wantStands(t, "said later", standingBook(last...), "k", want)
	wantStands(t, "said earlier", standingBook("k kind 3 glider", "k time 2 7 7", "k level 1 1", "k time 3 5 6"), "k", standingFlight())
}

func TestStandsAtItsBounds(t *testing.T) {
	with := func(forms ...string) impl.PlanBook { return standingBook(forms...) }
	for _, time := range [][2]int{{0, 0}, {0, 1}, {0, 10000}, {5, 5}, {9, 10}, {10000, 10000}, {9999, 10000}} {
		want := standingFlight()
		want.From, want.By = time[0], time[1]
		wantStands(t, "a time", with(fmt.Sprint("k time 9 ", time[0], " ", time[1])), "k", want)
	}
	for level := 1; level <= 6; level++ {
		want := standingFlight()
		want.Level = level
		wantStands(t, "a level", with(fmt.Sprint("k level 9 ", level)), "k", want)
	}
	for _, route := range []string{"a b", "b a", "a b a", "a b c a b c a b", "c a c a c a c a"} {
		want := standingFlight()
		want.Route = strings.Split(route, " ")
		wantStands(t, "a route", with("k route 9 "+route), "k", want)
	}
	full := fullBook()
	for i := range full.Entries {
		full.Entries[i].Fields[4].Value = "open"
	}
	var all []impl.PlanFlight
	for _, e := range full.Entries {
		f, _ := flightByForms(full, e.Name)
		if len(f.Route) != 8 || f.From != 10000 || f.By != 10000 || f.Level != 6 || f.Kind.Name != "kind--05" || f.Kind.Quick != 50 {
			t.Fatalf("%+v", f)
		}
		wantStands(t, "all that may be said", full, e.Name, f)
		all = append(all, f)
	}
	wantAll(t, "all that may be said", full, all...)
	wantAll(t, "all that may be said, and closed", fullBook())
}

// What does not fit makes the book one that is not ok, so nothing of it stands.
func TestStandsOfValuesThatDoNotFit(t *testing.T) {
	for what, values := range map[int][]string{
		1: {"", "a", "jets", "jet "},
		2: {"", "5", "6 5", "0 10001", "05 6", "5 6 7"},
		3: {"", "0", "7", "01", "1 "},
		4: {"", "a", "a a", "a z", "a  b", "a b ", "a b a b a b a b a"},
		5: {"", "shut", "open ", "Open"},
	} {
		for _, value := range values {
			b := bookOf(smallBase(), append(said(append(slices.Clone(planForms), "z level 1 1", "k state 1 open")...), impl.PlanChange{Flight: "k", What: what, Number: 99, Value: value}))
			wantStandsNot(t, value, b, "k", "z")
			wantAll(t, value, b)
			other := bookOf(smallBase(), append(said(planForms...), impl.PlanChange{Flight: "z", What: what, Number: 99, Value: value}))
			wantStandsNot(t, value+", of another flight", other, "k", "z")
			wantAll(t, value+", of another flight", other)
		}
	}
}

func TestStandsOfBooksThatAreNotOk(t *testing.T) {
	bases := brokenBases()
	for what, base := range bases {
		b := standingBook()
		b.Base = base
		wantStandsNot(t, what, b, "k")
		wantAll(t, what, b)
	}
	broken := map[string]func(b *impl.PlanBook){
		"too many flights": func(b *impl.PlanBook) {
			for i := range 12 {
				b.Entries = append(b.Entries, impl.PlanEntry{Name: fmt.Sprintf("l%02d", i), Fields: []impl.PlanField{{What: 5, Number: 1, Value: "open"}}})
			}
		},
		"two flights of a name":        func(b *impl.PlanBook) { b.Entries = append(b.Entries, b.Entries[0]) },
		"flights in the wrong order":   func(b *impl.PlanBook) { b.Entries = append(b.Entries, flightsBook("a").Entries...) },
		"a flight of which is nothing": func(b *impl.PlanBook) { b.Entries = append(b.Entries, impl.PlanEntry{Name: "z"}) },
		"a flight without a name":      func(b *impl.PlanBook) { b.Entries = append(flightsBook("").Entries, b.Entries...) },
		"a flight with another name":   func(b *impl.PlanBook) { b.Entries[0].Name = "K" },
		"things in the wrong order":    func(b *impl.PlanBook) { slices.Reverse(b.Entries[0].Fields) },
		"a thing twice":                func(b *impl.PlanBook) { b.Entries[0].Fields[1] = b.Entries[0].Fields[0] },
		"a thing that is none": func(b *impl.PlanBook) {
			b.Entries[0].Fields = append(b.Entries[0].Fields, impl.PlanField{What: 6, Number: 1, Value: "open"})
		},
		"a number too small": func(b *impl.PlanBook) { b.Entries[0].Fields[2].Number = 0 },
		"a number too great": func(b *impl.PlanBook) { b.Entries[0].Fields[2].Number = 1000001 },
	}
	for what, change := range broken {
		b := standingBook()
		change(&b)
		wantStandsNot(t, what, b, "", "k", "K", "l00", "z", "a")
		wantAll(t, what, b)
	}
	for what, b := range brokenBooks() {
		wantStandsNot(t, what, b, "", "d", "m", "k")
		wantAll(t, what, b)
	}
}

// PlanAll tells just those that PlanStands says true of, in the order of the book.
func TestAllInOrder(t *testing.T) {
	names := []string{"-", "0", "a", "a-", "a0", "ab", "b", "k", "k0", "z", "zz", "zzzzzzzz"}
	for left := range 1 << 12 {
		if left%7 != 0 && left != 1<<12-1 {
			continue
		}
		var list []impl.PlanChange
		var want []impl.PlanFlight
		for i, name := range names {
			for _, c := range said(planForms...) {
				c.Flight = name
				if left&(1<<i) != 0 || i%4+1 != c.What {
					list = append(list, c)
				}
			}
			f := standingFlight()
			f.Name = name
			if left&(1<<i) != 0 {
				want = append(want, f)
			}
		}
		wantAll(t, fmt.Sprintf("%b", left), bookOf(smallBase(), list), want...)
	}
}

// Promise 16, its first half: a flight stands just if its kind, time, level and route were said, and its state was not closed last.
func TestFlightsAtRandom(t *testing.T) {
	r := rand.New(rand.NewPCG(16, 1))
	standing, flights := 0, 0
	for range 2000 {
		base := drawBase(r)
		b := bookOf(base, drawSaids(r, base, drawNames(r, 1+r.IntN(12)), 80))
		flights += len(b.Entries)
		standing += checkFlights(t, b)
		for range 2 {
			bendBook(r, &b)
			checkFlights(t, b)
		}
	}
	if standing < 1000 || flights-standing < 3000 {
		t.Errorf("%d of %d stand", standing, flights)
	}
}

// A flight stands by what was said last of it, in whatever order that was heard.
func TestFlightsOfWhatWasSaid(t *testing.T) {
	r := rand.New(rand.NewPCG(16, 2))
	count := map[bool]int{}
	for range 4000 {
		base := fullBase()
		list := drawSaids(r, base, []string{"k"}, 12)
		whats, state := map[int]int{}, impl.PlanChange{}
		for _, c := range list {
			whats[c.What]++
			if c.What == 5 && laterThan(c, state) {
				state = c
			}
		}
		want := whats[1] > 0 && whats[2] > 0 && whats[3] > 0 && whats[4] > 0 && state.Value != "closed"
		count[want]++
		b, _ := impl.PlanTakeAll(impl.PlanBook{Base: base}, mixed(r, list))
		if _, ok := impl.PlanStands(b, "k"); ok != want {
			t.Fatalf("%v, not %v, behind %+v", ok, want, list)
		}
	}
	if count[true] < 300 || count[false] < 300 {
		t.Errorf("too few of one kind: %v", count)
	}
}

// someFlightBooks are books to be asked about memory, with flights that stand and that do not.
func someFlightBooks() []impl.PlanBook {
	books := someBooks()
	full := fullBook()
	for i := range full.Entries {
		full.Entries[i].Fields = full.Entries[i].Fields[:4]
	}
	broken := standingBook("z level 1 1")
	broken.Entries[1].Fields[0].Value = "7"
	return append(books, standingBook(), standingBook("k state 1 closed"), standingBook("a kind 1 jet", "z state 1 open"), full, broken)
}

func TestFlightsAreNotWrittenInto(t *testing.T) {
	for _, book := range someFlightBooks() {
		b := fenceBook(book)
		before := wholeBook(b)
		for _, name := range []string{"", "k", "d", "m", "z", "f00", "flight00", "flight11", "fence"} {
			impl.PlanStands(b, name)
		}
		impl.PlanAll(b)
		if !reflect.DeepEqual(wholeBook(b), before) {
			t.Errorf("written into: %+v", book)
		}
	}
}

func TestFlightsAreNewMemory(t *testing.T) {
	lists := 0
	for _, book := range someFlightBooks() {
		b := fenceBook(book)
		for _, name := range []string{"", "k", "d", "m", "z", "f00", "flight00", "flight11", "fence"} {
			first, _ := impl.PlanStands(b, name)
			second, _ := impl.PlanStands(b, name)
			wantNewMemory(t, "PlanStands", []any{first, second}, b)
		}
		all := impl.PlanAll(b)
		lists += len(roomsOf(reflect.ValueOf(all), ""))
		wantNewMemory(t, "PlanAll", []any{all, impl.PlanAll(b)}, b)
	}
	if lists < 15 {
		t.Errorf("%d lists in all", lists)
	}
}
