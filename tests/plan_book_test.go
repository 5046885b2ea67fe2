package tests

import (
	"fmt"
	"math/rand/v2"
	"reflect"
	"slices"
	"strings"
	"testing"

	"loop.example/lapwing/impl"
)

// bookCase is a change of a book, and whether it is ok with it.
type bookCase struct {
	what   string
	ok     bool
	change func(b *impl.PlanBook)
}

func wantBooks(t *testing.T, book func() impl.PlanBook, cases []bookCase) {
	t.Helper()
	if !impl.PlanBookOk(book()) {
		t.Fatalf("not ok as it is: %+v", book())
	}
	for _, c := range cases {
		b := book()
		c.change(&b)
		if got := impl.PlanBookOk(b); got != c.ok {
			t.Errorf("%s: PlanBookOk is %v of %+v", c.what, got, b)
		}
	}
}

func TestBookLimit(t *testing.T) {
	if impl.PlanMaxFlights != 12 {
		t.Error("not the number of the document", impl.PlanMaxFlights)
	}
}

func TestBookOfNothing(t *testing.T) {
	wantBooks(t, smallBook, []bookCase{
		{"nothing", true, func(b *impl.PlanBook) { *b = impl.PlanBook{} }},
		{"empty lists", true, func(b *impl.PlanBook) {
			*b = impl.PlanBook{Base: impl.PlanBase{Kinds: []impl.PlanKind{}, Points: []impl.PlanPoint{}}, Entries: []impl.PlanEntry{}}
		}},
		{"no entries", true, func(b *impl.PlanBook) { b.Entries = nil }},
		{"an entry of nothing", false, func(b *impl.PlanBook) { b.Entries = make([]impl.PlanEntry, 1) }},
		{"nothing but a state", true, func(b *impl.PlanBook) { *b = bookOf(impl.PlanBase{}, said("k state 1 open")) }},
	})
}

func TestBrokenBooksAreNotOk(t *testing.T) {
	for what, b := range brokenBooks() {
		if impl.PlanBookOk(b) {
			t.Errorf("ok with %s: %+v", what, b)
		}
	}
}

func TestBookEntries(t *testing.T) {
	long := func(b *impl.PlanBook, count int) { *b = flightsBook(flightNames(0, count)...) }
	wantBooks(t, smallBook, []bookCase{
		{"one entry", true, func(b *impl.PlanBook) { long(b, 1) }},
		{"eleven", true, func(b *impl.PlanBook) { long(b, 11) }},
		{"twelve", true, func(b *impl.PlanBook) { long(b, 12) }},
		{"thirteen", false, func(b *impl.PlanBook) { long(b, 13) }},
		{"very many", false, func(b *impl.PlanBook) { b.Entries = make([]impl.PlanEntry, 100000) }},
		{"the same name", false, func(b *impl.PlanBook) { b.Entries[0].Name = "m" }},
		{"a name behind that of the next", false, func(b *impl.PlanBook) { b.Entries[0].Name = "n" }},
		{"a name ahead of that of the next", true, func(b *impl.PlanBook) { b.Entries[0].Name = "lzzzzzzz" }},
		{"a name that begins with the one ahead", true, func(b *impl.PlanBook) { b.Entries[1].Name = "d-" }},
		{"a name that is the beginning of the one ahead", false, func(b *impl.PlanBook) { b.Entries[0].Name = "m-" }},
		{"the last without fields", false, func(b *impl.PlanBook) { b.Entries[1].Fields = nil }},
		{"the first with an empty list of fields", false, func(b *impl.PlanBook) { b.Entries[0].Fields = []impl.PlanField{} }},
		{"the first entry twice", false, func(b *impl.PlanBook) { b.Entries[1] = b.Entries[0] }},
	})
	wantBooks(t, fullBook, []bookCase{
		{"the last two change places", false, func(b *impl.PlanBook) { b.Entries[10], b.Entries[11] = b.Entries[11], b.Entries[10] }},
		{"the last has the name of the first", false, func(b *impl.PlanBook) { b.Entries[11].Name = b.Entries[0].Name }},
		{"the last without its last field", true, func(b *impl.PlanBook) { b.Entries[11].Fields = b.Entries[11].Fields[:4] }},
		{"the last without fields", false, func(b *impl.PlanBook) { b.Entries[11].Fields = nil }},
		{"the base without a point of the routes", false, func(b *impl.PlanBook) { b.Base.Points = b.Base.Points[1:] }},
		{"the base without the kind", false, func(b *impl.PlanBook) { b.Base.Kinds = b.Base.Kinds[:5] }},
		{"the base without another kind", true, func(b *impl.PlanBook) { b.Base.Kinds = b.Base.Kinds[1:] }},
		{"no base", false, func(b *impl.PlanBook) { b.Base = impl.PlanBase{} }},
	})
}

func TestBookNames(t *testing.T) {
	for i, name := range append(slices.Clone(someNames), noNames...) {
		b := flightsBook("d")
		b.Entries[0].Name = name
		if got := impl.PlanBookOk(b); got != (i < len(someNames)) {
			t.Errorf("an entry with the name %q: %v", name, got)
		}
	}
}

func TestBookFields(t *testing.T) {
	field := func(entry, place int, change func(f *impl.PlanField)) func(b *impl.PlanBook) {
		return func(b *impl.PlanBook) { change(&b.Entries[entry].Fields[place]) }
	}
	what := func(what int) func(f *impl.PlanField) { return func(f *impl.PlanField) { f.What = what } }
	value := func(value string) func(f *impl.PlanField) { return func(f *impl.PlanField) { f.Value = value } }
	wantBooks(t, smallBook, []bookCase{
		{"one thing twice", false, func(b *impl.PlanBook) { b.Entries[0].Fields[0] = b.Entries[0].Fields[1] }},
		{"one thing twice, said otherwise", false, func(b *impl.PlanBook) {
			b.Entries[0].Fields = []impl.PlanField{{What: 3, Number: 1, Value: "1"}, {What: 3, Number: 2, Value: "2"}}
		}},
		{"the last two change places", false, func(b *impl.PlanBook) {
			f := b.Entries[1].Fields
			f[1], f[2] = f[2], f[1]
		}},
		{"the one in between out", true, func(b *impl.PlanBook) { b.Entries[1].Fields = slices.Delete(b.Entries[1].Fields, 1, 2) }},
		{"what is nothing", false, field(1, 0, what(0))},
		{"what is below", false, field(1, 0, what(-1))},
		{"what is past the last", false, field(1, 2, what(6))},
		{"what is far past", false, field(1, 2, what(1<<32+5))},
		{"a value of another thing", false, field(1, 1, value("jet"))},
		{"no value", false, field(1, 2, value(""))},
		{"another value that fits", true, field(1, 2, value("closed"))},
		{"a value that nearly fits", false, field(1, 2, value("closed "))},
		{"a time that does not fit", false, field(0, 0, value("5 4"))},
		{"a route that does not fit", false, field(0, 1, value("a"))},
		{"a kind that is none", false, field(1, 0, value("a"))},
		{"a level that is none", false, field(1, 1, value("7"))},
		{"very many fields", false, func(b *impl.PlanBook) { b.Entries[0].Fields = make([]impl.PlanField, 100000) }},
	})
	for _, number := range numbersAround {
		for entry, e := range smallBook().Entries {
			for place := range e.Fields {
				b := smallBook()
				b.Entries[entry].Fields[place].Number = number
				if got := impl.PlanBookOk(b); got != (number >= 1 && number <= 1000000) {
					t.Errorf("a field with the number %d: %v", number, got)
				}
			}
		}
	}
}

// okByRules says what chapter 13 says, in another way: names, whats and each field by themselves.
func okByRules(b impl.PlanBook) bool {
	var names []string
	for _, e := range b.Entries {
		names = append(names, e.Name)
		ahead := 0
		for _, f := range e.Fields {
			if f.What <= ahead || f.Number < 1 || f.Number > 1000000 || !fitsByForms(b.Base, f.What, f.Value) {
				return false
			}
			ahead = f.What
		}
		if ahead == 0 {
			return false
		}
	}
	return okByLists(b.Base) && len(names) <= 12 && namesAscend(names)
}

// bendBook changes one thing of a book, at random.
func bendBook(r *rand.Rand, b *impl.PlanBook) {
	if len(b.Entries) == 0 || r.IntN(6) == 0 {
		bendBase(r, &b.Base)
		return
	}
	e := &b.Entries[r.IntN(len(b.Entries))]
	if len(e.Fields) == 0 {
		return
	}
	f := &e.Fields[r.IntN(len(e.Fields))]
	switch r.IntN(7) {
	case 0:
		e.Name = drawNames(r, 1)[0]
	case 1:
		e.Fields = e.Fields[1:]
	case 2:
		f.What += r.IntN(3) - 1
	case 3:
		f.Number = numbersAround[r.IntN(len(numbersAround))]
	case 4:
		f.Value = bendText(r, f.Value)
	case 5:
		b.Entries = append(b.Entries, impl.PlanEntry{Name: "zzz", Fields: []impl.PlanField{{What: 5, Number: 1, Value: "open"}}})
	case 6:
		f.Value = drawFitting(r, b.Base, f.What)
	}
}

func TestBooksAtRandom(t *testing.T) {
	r := rand.New(rand.NewPCG(13, 1))
	count := map[bool]int{}
	for range 5000 {
		base := drawBase(r)
		b := bookOf(base, drawSaids(r, base, drawNames(r, 12), 60))
		if !impl.PlanBookOk(b) {
			t.Fatalf("not ok: %+v", b)
		}
		for range 3 {
			bendBook(r, &b)
			want := okByRules(b)
			count[want]++
			if got := impl.PlanBookOk(b); got != want {
				t.Fatalf("PlanBookOk is %v of %+v", got, b)
			}
		}
	}
	if count[true] < 1000 || count[false] < 1000 {
		t.Errorf("too few of one kind: %v", count)
	}
}

// wantTake asks what a change comes to, and with which code.
func wantTake(t *testing.T, what string, b impl.PlanBook, c impl.PlanChange, want impl.PlanBook, wantCode int) {
	t.Helper()
	got, code := impl.PlanTake(b, c)
	if code != wantCode {
		t.Errorf("%s: code %d, not %d, of %+v", what, code, wantCode, c)
	}
	checkBook(t, what, got, want)
}

// valuesInOrder are values that fit, of each thing, in the order of their bytes.
var valuesInOrder = map[int][]string{
	1: {"glider", "jet"},
	2: {"0 10000", "10 10", "10 100", "2 2", "5 10000", "5 6", "5 60", "5 600", "9 10"},
	3: {"1", "2", "3", "4", "5", "6"},
	4: {"a b", "a b a", "a b a b", "a b c", "a c", "b a", "c a", "c b a"},
	5: {"closed", "open"},
}

// Numbers are held against each other as numbers, values byte by byte.
func TestTakeOfWhatIsLater(t *testing.T) {
	numbers := []int{1, 2, 9, 10, 99, 100, 999999, 1000000}
	for what, values := range valuesInOrder {
		if !slices.IsSorted(values) {
			t.Errorf("not in order: %q", values)
		}
		for i, one := range values {
			for k, other := range values {
				for n, oneNumber := range numbers {
					for m, otherNumber := range numbers {
						old := impl.PlanChange{Flight: "k", What: what, Number: oneNumber, Value: one}
						c := impl.PlanChange{Flight: "k", What: what, Number: otherNumber, Value: other}
						want := bookOf(smallBase(), []impl.PlanChange{old})
						if m > n || m == n && k > i {
							want = bookOf(smallBase(), []impl.PlanChange{c})
						}
						wantTake(t, "one thing", bookOf(smallBase(), []impl.PlanChange{old}), c, want, 0)
					}
				}
			}
		}
	}
}

func TestTakeAmongOthers(t *testing.T) {
	b := smallBook()
	others := said("d route 2 a b", "m kind 3 jet", "m level 3 4", "m state 1 open")
	with := func(form string) impl.PlanBook {
		return bookOf(smallBase(), append(slices.Clone(others), said(form)...))
	}
	wantTake(t, "a number that is smaller", b, said("d time 4 9 9")[0], b, 0)
	wantTake(t, "the same", b, said("d time 5 5 6")[0], b, 0)
	wantTake(t, "a number that is greater", b, said("d time 6 1 1")[0], with("d time 6 1 1"), 0)
	wantTake(t, "a value that is smaller", b, said("d time 5 10 60")[0], b, 0)
	wantTake(t, "a value that is greater", b, said("d time 5 5 7")[0], with("d time 5 5 7"), 0)
	wantTake(t, "a value that begins with it", b, said("d time 5 5 60")[0], with("d time 5 5 60"), 0)
	wantTake(t, "the same of another flight", b, said("m time 5 5 6")[0], bookOf(smallBase(), append(changesOf(b), said("m time 5 5 6")...)), 0)
	longer := with("d time 5 5 60")
	wantTake(t, "a value that is its beginning", longer, said("d time 5 5 6")[0], longer, 0)
}

func TestTakeWhereNothingWasSaid(t *testing.T) {
	b := smallBook()
	want := func(what string, c impl.PlanChange, entry int, name string, place int) {
		t.Helper()
		got, code := impl.PlanTake(b, c)
		if code != 0 || got.Entries[entry].Name != name || got.Entries[entry].Fields[place] != (impl.PlanField{What: c.What, Number: c.Number, Value: c.Value}) {
			t.Errorf("%s: %+v, %d", what, got, code)
		}
		checkBook(t, what, got, bookOf(smallBase(), append(changesOf(b), c)))
	}
	want("a flight ahead of all", said("c level 1 1")[0], 0, "c", 0)
	want("a flight in between", said("e level 1 1")[0], 1, "e", 0)
	want("a flight in between, by its longer name", said("d- level 1 1")[0], 1, "d-", 0)
	want("a flight behind all", said("n level 1 1")[0], 2, "n", 0)
	want("a thing ahead of all", said("d kind 1 jet")[0], 0, "d", 0)
	want("a thing in between", said("d level 1 1")[0], 0, "d", 1)
	want("a thing behind all", said("d state 1 open")[0], 0, "d", 2)
	want("a thing in between of the last flight", said("m route 1 a b")[0], 1, "m", 2)
	empty := impl.PlanBook{Base: smallBase()}
	for _, c := range okChanges() {
		wantTake(t, "into an empty book", empty, c, bookOf(smallBase(), []impl.PlanChange{c}), 0)
	}
	wantTake(t, "without a base", impl.PlanBook{}, said("k state 1 open")[0], bookOf(impl.PlanBase{}, said("k state 1 open")), 0)
}

func TestTakeIntoBooksThatAreNotOk(t *testing.T) {
	for what, b := range brokenBooks() {
		for _, c := range append(brokenChanges(), said("d level 9 1", "m level 9 1", "z level 9 1", "m level 3 4")...) {
			wantTake(t, what, b, c, impl.PlanBook{}, 1)
		}
	}
}

func TestTakeOfChangesThatAreNotOk(t *testing.T) {
	full := flightsBook(flightNames(0, 12)...)
	for _, c := range brokenChanges() {
		wantTake(t, "a change that is not ok", smallBook(), c, smallBook(), 2)
		wantTake(t, "and nothing said", impl.PlanBook{Base: smallBase()}, c, impl.PlanBook{Base: smallBase()}, 2)
		wantTake(t, "and no room", full, c, full, 2)
	}
	wantTake(t, "nothing into nothing", impl.PlanBook{}, impl.PlanChange{}, impl.PlanBook{}, 2)
	// What is ok with one base is not with another.
	wantTake(t, "no such kind", fullBook(), said("flight00 kind 1 jet")[0], fullBook(), 2)
}

func TestTakeIntoFullBooks(t *testing.T) {
	names := flightNames(0, 12)
	full := flightsBook(names...)
	for _, name := range names {
		newer := impl.PlanChange{Flight: name, What: 3, Number: 2, Value: "6"}
		other := impl.PlanChange{Flight: name, What: 4, Number: 1, Value: "a b"}
		older := impl.PlanChange{Flight: name, What: 3, Number: 1, Value: "1"}
		wantTake(t, "a flight that is there", full, newer, bookOf(smallBase(), append(changesOf(full), newer)), 0)
		wantTake(t, "another thing of it", full, other, bookOf(smallBase(), append(changesOf(full), other)), 0)
		wantTake(t, "what is said already", full, older, full, 0)
	}
	for _, name := range []string{"-", "f", "f0", "f000", "f12", "g", "zzzzzzzz"} {
		c := impl.PlanChange{Flight: name, What: 3, Number: 1, Value: "1"}
		wantTake(t, "one flight too many", full, c, full, 3)
		eleven := flightsBook(names[1:]...)
		wantTake(t, "the last that there is room for", eleven, c, bookOf(smallBase(), append(changesOf(eleven), c)), 0)
	}
	wantTake(t, "all that may be said", fullBook(), said("flight12 state 1 open")[0], fullBook(), 3)
	wantTake(t, "all that may be said, of one that is there", fullBook(), said("flight11 state 1000000 open")[0], bookOf(fullBase(), append(changesOf(fullBook()), said("flight11 state 1000000 open")...)), 0)
}

// Promise 11: changes taken in any order, some of them twice, come to one book.
func TestOneBook(t *testing.T) {
	r := rand.New(rand.NewPCG(11, 2))
	for range 400 {
		base := drawBase(r)
		flights := drawNames(r, 1+r.IntN(12))
		begin := bookOf(base, drawSaids(r, base, flights, 10))
		list := drawSaids(r, base, flights, 80)
		want := bookOf(base, append(changesOf(begin), list...))
		for range 4 {
			b := begin
			for _, c := range mixed(r, list) {
				var code int
				b, code = impl.PlanTake(b, c)
				if code != 0 {
					t.Fatalf("code %d of %+v", code, c)
				}
			}
			checkBook(t, "one by one", b, want)
			all, _ := impl.PlanTakeAll(begin, mixed(r, list))
			checkBook(t, "all at once", all, want)
		}
	}
}

// Promise 12: PlanTake leaves all that is said of other things; what was said later stays.
func TestTakeLeavesOtherThings(t *testing.T) {
	r := rand.New(rand.NewPCG(12, 2))
	count := map[string]int{}
	for range 5000 {
		base := drawBase(r)
		flights := drawNames(r, 13)
		b := bookOf(base, drawSaids(r, base, flights[:12], 40))
		c := drawSaid(r, base, flights)
		got, code := impl.PlanTake(b, c)
		var before, behind []impl.PlanChange
		var old, last *impl.PlanChange
		for _, one := range changesOf(b) {
			if one.Flight == c.Flight && one.What == c.What {
				old = &one
				continue
			}
			before = append(before, one)
		}
		for _, one := range changesOf(got) {
			if one.Flight == c.Flight && one.What == c.What {
				last = &one
				continue
			}
			behind = append(behind, one)
		}
		if !slices.Equal(before, behind) {
			t.Fatalf("%+v comes to %+v with %+v", b, got, c)
		}
		switch {
		case code != 0:
			count["no room"]++
			if code != 3 || last != nil {
				t.Fatalf("code %d of %+v and %+v", code, b, c)
			}
		case last == nil:
			t.Fatalf("%+v is not taken into %+v", c, b)
		case old == nil:
			count["new"]++
			if *last != c {
				t.Fatalf("%+v is said, not %+v", *last, c)
			}
		case laterThan(*old, c):
			count["stays"]++
			if *last != *old {
				t.Fatalf("%+v is said, not %+v", *last, *old)
			}
		default:
			count["later"]++
			if *last != c {
				t.Fatalf("%+v is said, not %+v", *last, c)
			}
		}
	}
	if count["no room"] < 20 || count["new"] < 500 || count["stays"] < 300 || count["later"] < 300 {
		t.Errorf("too few of one kind: %v", count)
	}
}

// Promise 14: what is ok is taken in, while there is room.
func TestWhatIsOkIsTakenIn(t *testing.T) {
	r := rand.New(rand.NewPCG(14, 3))
	count := map[int]int{}
	for range 1500 {
		base := drawBase(r)
		flights := drawNames(r, 15)
		b := impl.PlanBook{Base: base}
		for range 40 {
			c := drawSaid(r, base, flights)
			if r.IntN(3) == 0 {
				c = drawChange(r, base)
			}
			want := 0
			known := slices.ContainsFunc(b.Entries, func(e impl.PlanEntry) bool { return e.Name == c.Flight })
			switch {
			case !nameForm.MatchString(c.Flight), c.Number < 1, c.Number > 1000000, !fitsByForms(base, c.What, c.Value):
				want = 2
			case !known && len(b.Entries) == 12:
				want = 3
			}
			next, code := impl.PlanTake(b, c)
			count[code]++
			if code != want || !impl.PlanBookOk(next) {
				t.Fatalf("code %d, not %d, of %+v and %+v", code, want, b, c)
			}
			if code != 0 {
				checkBook(t, "the book stays", next, b)
			} else if now := changesOf(next); !slices.ContainsFunc(now, func(one impl.PlanChange) bool {
				return one.Flight == c.Flight && one.What == c.What && !laterThan(c, one)
			}) {
				t.Fatalf("%+v is not in %+v", c, next)
			}
			b = next
		}
	}
	if count[0] < 5000 || count[2] < 5000 || count[3] < 500 {
		t.Errorf("too few of one kind: %v", count)
	}
}

func wantMerge(t *testing.T, what string, a, b, want impl.PlanBook, wantCode int) {
	t.Helper()
	got, code := impl.PlanMerge(a, b)
	if code != wantCode {
		t.Errorf("%s: code %d, not %d", what, code, wantCode)
	}
	checkBook(t, what, got, want)
}

func TestMergeByHand(t *testing.T) {
	a := bookOf(smallBase(), said("d time 5 5 6", "d route 2 a b", "m kind 3 jet", "m level 3 4", "m state 1 open"))
	b := bookOf(smallBase(), said("c level 1 1", "d kind 9 jet", "d time 5 5 60", "d route 1 b a", "m level 4 1", "m state 1 closed", "z state 7 closed"))
	want := bookOf(smallBase(), said("c level 1 1", "d kind 9 jet", "d time 5 5 60", "d route 2 a b", "m kind 3 jet", "m level 4 1", "m state 1 open", "z state 7 closed"))
	empty := impl.PlanBook{Base: smallBase(), Entries: []impl.PlanEntry{}}
	wantMerge(t, "two books", a, b, want, 0)
	wantMerge(t, "the other way round", b, a, want, 0)
	wantMerge(t, "with itself", a, a, a, 0)
	wantMerge(t, "with an empty one", a, empty, a, 0)
	wantMerge(t, "an empty one with it", empty, a, a, 0)
	wantMerge(t, "two empty ones", empty, impl.PlanBook{Base: smallBase()}, empty, 0)
	wantMerge(t, "nothing", impl.PlanBook{}, impl.PlanBook{}, impl.PlanBook{}, 0)
	wantMerge(t, "nothing and empty lists", impl.PlanBook{}, impl.PlanBook{Base: impl.PlanBase{Kinds: []impl.PlanKind{}, Points: []impl.PlanPoint{}}}, impl.PlanBook{}, 0)
}

func TestMergeOfBooksThatAreNotOk(t *testing.T) {
	fine := []impl.PlanBook{smallBook(), fullBook(), {}, flightsBook(flightNames(20, 32)...)}
	for what, broken := range brokenBooks() {
		for _, other := range fine {
			wantMerge(t, what, broken, other, impl.PlanBook{}, 1)
			wantMerge(t, what, other, broken, impl.PlanBook{}, 1)
		}
		wantMerge(t, what+", twice", broken, broken, impl.PlanBook{}, 1)
	}
}

func TestMergeOfOtherBases(t *testing.T) {
	bases := map[string]func(b *impl.PlanBase){
		"a kind's name":         func(b *impl.PlanBase) { b.Kinds[0].Name = "glide" },
		"a kind's Quick":        func(b *impl.PlanBase) { b.Kinds[0].Quick = 2 },
		"a kind's Slow":         func(b *impl.PlanBase) { b.Kinds[0].Slow = 10 },
		"the last kind's Quick": func(b *impl.PlanBase) { b.Kinds[1].Quick = 2 },
		"one kind less":         func(b *impl.PlanBase) { b.Kinds = b.Kinds[1:] },
		"one kind more":         func(b *impl.PlanBase) { b.Kinds = append(b.Kinds, impl.PlanKind{Name: "kite", Quick: 1, Slow: 1}) },
		"a point's name":        func(b *impl.PlanBase) { b.Points[2].Name = "d" },
		"a point's X":           func(b *impl.PlanBase) { b.Points[2].X = 2 },
		"a point's Y":           func(b *impl.PlanBase) { b.Points[2].Y = 6 },
		"the first point's X":   func(b *impl.PlanBase) { b.Points[0].X = 1 },
		"one point less":        func(b *impl.PlanBase) { b.Points = b.Points[:2] },
		"one point more":        func(b *impl.PlanBase) { b.Points = append(b.Points, impl.PlanPoint{Name: "d", X: 9}) },
		"cells changed over": func(b *impl.PlanBase) {
			b.Points[1].X, b.Points[1].Y, b.Points[2].X, b.Points[2].Y = 1, 5, 5, 1
		},
	}
	lists := [][]impl.PlanBook{
		{smallBook(), smallBook()},
		{{Base: smallBase()}, {Base: smallBase()}},
		{flightsBook(flightNames(0, 12)...), flightsBook(flightNames(12, 24)...)},
	}
	for what, change := range bases {
		for _, list := range lists {
			a, b := list[0], list[1]
			b.Base = cloneBase(b.Base)
			change(&b.Base)
			if !impl.PlanBookOk(a) || !impl.PlanBookOk(b) {
				t.Fatalf("%s: not ok: %+v", what, b)
			}
			wantMerge(t, what, a, b, impl.PlanBook{}, 2)
			wantMerge(t, what, b, a, impl.PlanBook{}, 2)
		}
	}
	wantMerge(t, "no base", smallBook(), impl.PlanBook{}, impl.PlanBook{}, 2)
}

func TestMergeAtItsLimit(t *testing.T) {
	for _, c := range []struct{ from, to, otherFrom, otherTo int }{
		{0, 12, 0, 12}, {0, 12, 12, 12}, {0, 6, 6, 12}, {0, 11, 11, 12}, {0, 7, 5, 12}, {0, 12, 4, 8}, {0, 12, 0, 1},
		{0, 12, 12, 13}, {0, 7, 7, 13}, {0, 7, 6, 13}, {0, 12, 1, 13}, {1, 13, 0, 12}, {0, 12, 11, 13}, {0, 12, 12, 24}, {0, 1, 1, 13},
	} {
		a, b := flightsBook(flightNames(c.from, c.to)...), flightsBook(flightNames(c.otherFrom, c.otherTo)...)
		want, code := impl.PlanBook{}, 3
		if c.to <= 12 && c.otherTo <= 12 {
			want, code = flightsBook(flightNames(0, 12)...), 0
		}
		wantMerge(t, fmt.Sprint(c), a, b, want, code)
		wantMerge(t, fmt.Sprint(c, " the other way round"), b, a, want, code)
	}
	wantMerge(t, "all that may be said", fullBook(), fullBook(), fullBook(), 0)
}

// Promise 13, but for what PlanNews has to do with it.
func TestMergePromise(t *testing.T) {
	r := rand.New(rand.NewPCG(13, 2))
	merge := func(a, b impl.PlanBook) impl.PlanBook {
		got, code := impl.PlanMerge(a, b)
		if code != 0 || !impl.PlanBookOk(got) {
			t.Fatalf("code %d of %+v and %+v", code, a, b)
		}
		return got
	}
	for range 1500 {
		base := drawBase(r)
		flights := drawNames(r, 12)
		var books [3]impl.PlanBook
		for i := range books {
			books[i] = bookOf(base, drawSaids(r, base, flights, 40))
		}
		a, b, c := books[0], books[1], books[2]
		both := merge(a, b)
		checkBook(t, "all that both say", both, bookOf(base, append(changesOf(a), changesOf(b)...)))
		checkBook(t, "the other way round", merge(b, a), both)
		three := bookOf(base, slices.Concat(changesOf(a), changesOf(b), changesOf(c)))
		checkBook(t, "the first two first", merge(both, c), three)
		checkBook(t, "the last two first", merge(a, merge(b, c)), three)
		checkBook(t, "the outer two first", merge(merge(a, c), b), three)
		for _, again := range []impl.PlanBook{a, b, both} {
			checkBook(t, "one of them once more", merge(both, again), both)
			checkBook(t, "one of them once more, ahead", merge(again, both), both)
		}
	}
}

func TestMergeCodesAtRandom(t *testing.T) {
	r := rand.New(rand.NewPCG(13, 3))
	count := map[int]int{}
	for range 4000 {
		base := drawBase(r)
		flights := drawNames(r, 16)
		var books [2]impl.PlanBook
		for i := range books {
			r.Shuffle(16, func(i, k int) { flights[i], flights[k] = flights[k], flights[i] })
			books[i] = bookOf(base, drawSaids(r, base, flights[:12], 40))
		}
		if r.IntN(5) == 0 {
			bendBook(r, &books[r.IntN(2)])
		}
		a, b := books[0], books[1]
		want, wantCode := bookOf(base, append(changesOf(a), changesOf(b)...)), 0
		switch {
		case !okByRules(a) || !okByRules(b):
			wantCode = 1
		case fmt.Sprint(a.Base) != fmt.Sprint(b.Base):
			wantCode = 2
		case len(want.Entries) > 12:
			wantCode = 3
		}
		if wantCode != 0 {
			want = impl.PlanBook{}
		}
		count[wantCode]++
		wantMerge(t, strings.TrimSpace(fmt.Sprint(a, b)), a, b, want, wantCode)
	}
	if count[0] < 500 || count[1] < 200 || count[2] < 20 || count[3] < 500 {
		t.Errorf("too few of one kind: %v", count)
	}
}

// someBooks are books to be asked about memory, ok and not ok.
func someBooks() []impl.PlanBook {
	books := []impl.PlanBook{smallBook(), fullBook(), {}, {Base: smallBase()}, flightsBook(flightNames(0, 12)...), flightsBook(flightNames(6, 18)...)}
	for _, b := range brokenBooks() {
		books = append(books, b)
	}
	return books
}

func TestBooksAreNotWrittenInto(t *testing.T) {
	changes := append(brokenChanges(), said("a level 9 1", "d level 9 1", "d time 9 1 1", "m state 9 closed", "z level 9 1", "f06 level 9 2", "flight03 level 1 1")...)
	for _, book := range someBooks() {
		b := fenceBook(book)
		before := wholeBook(b)
		impl.PlanBookOk(b)
		for _, c := range changes {
			impl.PlanTake(b, c)
		}
		for _, other := range someBooks() {
			o := fenceBook(other)
			otherBefore := wholeBook(o)
			impl.PlanMerge(b, o)
			impl.PlanMerge(o, b)
			if !reflect.DeepEqual(wholeBook(o), otherBefore) {
				t.Errorf("written into: %+v", other)
			}
		}
		if !reflect.DeepEqual(wholeBook(b), before) {
			t.Errorf("written into: %+v", book)
		}
	}
}

func TestBooksAreNewMemory(t *testing.T) {
	changes := append(brokenChanges(), said("a level 9 1", "d level 9 1", "d time 9 1 1", "d time 1 1 1", "m state 9 closed", "z level 9 1", "f06 level 9 2", "flight03 level 1 1", "flight03 state 1000000 open")...)
	for _, book := range someBooks() {
		b := fenceBook(book)
		for _, c := range changes {
			got, code := impl.PlanTake(b, c)
			again, _ := impl.PlanTake(b, c)
			wantNewMemory(t, fmt.Sprintf("PlanTake with code %d", code), []any{got, again}, b)
		}
		for _, other := range someBooks() {
			o := fenceBook(other)
			got, code := impl.PlanMerge(b, o)
			wantNewMemory(t, fmt.Sprintf("PlanMerge with code %d", code), []any{got}, b, o)
		}
		got, _ := impl.PlanMerge(b, b)
		wantNewMemory(t, "PlanMerge with itself", []any{got}, b)
	}
}
