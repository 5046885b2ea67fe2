package tests

import (
	"cmp"
	"fmt"
	"math/rand/v2"
	"reflect"
	"slices"
	"strings"
	"testing"

	"loop.example/lapwing/impl"
)

// said is the changes whose forms are given, without the `set` ahead.
func said(forms ...string) []impl.PlanChange {
	var list []impl.PlanChange
	for _, form := range forms {
		c, ok := impl.PlanRead("set " + form)
		if !ok {
			panic("no form of a change: " + form)
		}
		list = append(list, c)
	}
	return list
}

// laterThan says what chapter 13 says of two things that are said.
func laterThan(a, b impl.PlanChange) bool {
	return a.Number > b.Number || a.Number == b.Number && strings.Compare(a.Value, b.Value) > 0
}

// bookOf is the book in which the last of all that is said stands, found in another way: what is said is
// sorted, and of each thing its end is left.
func bookOf(base impl.PlanBase, list []impl.PlanChange) impl.PlanBook {
	list = slices.Clone(list)
	slices.SortFunc(list, func(a, b impl.PlanChange) int {
		return cmp.Or(strings.Compare(a.Flight, b.Flight), a.What-b.What, a.Number-b.Number, strings.Compare(a.Value, b.Value))
	})
	book := impl.PlanBook{Base: cloneBase(base)}
	for i, c := range list {
		if i+1 < len(list) && list[i+1].Flight == c.Flight && list[i+1].What == c.What {
			continue
		}
		if n := len(book.Entries); n == 0 || book.Entries[n-1].Name != c.Flight {
			book.Entries = append(book.Entries, impl.PlanEntry{Name: c.Flight})
		}
		e := &book.Entries[len(book.Entries)-1]
		e.Fields = append(e.Fields, impl.PlanField{What: c.What, Number: c.Number, Value: c.Value})
	}
	return book
}

// changesOf is what a book says, field by field.
func changesOf(b impl.PlanBook) []impl.PlanChange {
	var list []impl.PlanChange
	for _, e := range b.Entries {
		for _, f := range e.Fields {
			list = append(list, impl.PlanChange{Flight: e.Name, What: f.What, Number: f.Number, Value: f.Value})
		}
	}
	return list
}

// smallBook is a book that is ok, with some of everything.
func smallBook() impl.PlanBook {
	return bookOf(smallBase(), said("d time 5 5 6", "d route 2 a b", "m kind 3 jet", "m level 3 4", "m state 1 open"))
}

// fullBook is a book that is ok and meets every limit.
func fullBook() impl.PlanBook {
	var list []impl.PlanChange
	route := "point-00 point-01 point-02 point-03 point-04 point-05 point-06 point-07"
	for i := range 12 {
		for what, value := range []string{"kind--05", "10000 10000", "6", route, "closed"} {
			list = append(list, impl.PlanChange{Flight: fmt.Sprintf("flight%02d", i), What: what + 1, Number: 1000000, Value: value})
		}
	}
	return bookOf(fullBase(), list)
}

// flightsBook is a book on smallBase in which the level of some flights is said.
func flightsBook(flights ...string) impl.PlanBook {
	var list []impl.PlanChange
	for _, name := range flights {
		list = append(list, impl.PlanChange{Flight: name, What: 3, Number: 1, Value: "1"})
	}
	return bookOf(smallBase(), list)
}

// flightNames are the names f00, f01 and so on, from one number up to the one ahead of another.
func flightNames(from, to int) []string {
	var names []string
	for i := from; i < to; i++ {
		names = append(names, fmt.Sprintf("f%02d", i))
	}
	return names
}

// brokenBooks are books that are not ok, each by one thing.
func brokenBooks() map[string]impl.PlanBook {
	books := map[string]impl.PlanBook{}
	for what, base := range brokenBases() {
		b := smallBook()
		b.Base = base
		books[what] = b
		books[what+", and nothing said"] = impl.PlanBook{Base: base}
	}
	broken := func(what string, change func(b *impl.PlanBook)) {
		b := smallBook()
		change(&b)
		books[what] = b
	}
	broken("too many entries", func(b *impl.PlanBook) { *b = flightsBook(flightNames(0, 13)...) })
	broken("entries in the wrong order", func(b *impl.PlanBook) { slices.Reverse(b.Entries) })
	broken("entries of one name", func(b *impl.PlanBook) { b.Entries[1].Name = "d" })
	broken("an entry without a name", func(b *impl.PlanBook) { b.Entries[0].Name = "" })
	broken("an entry without fields", func(b *impl.PlanBook) { b.Entries[1].Fields = nil })
	broken("fields in the wrong order", func(b *impl.PlanBook) { slices.Reverse(b.Entries[1].Fields) })
	broken("fields of one thing", func(b *impl.PlanBook) { b.Entries[0].Fields[1] = b.Entries[0].Fields[0] })
	broken("a number too small", func(b *impl.PlanBook) { b.Entries[0].Fields[0].Number = 0 })
	broken("a number too great", func(b *impl.PlanBook) { b.Entries[1].Fields[2].Number = 1000001 })
	broken("a value that does not fit", func(b *impl.PlanBook) { b.Entries[0].Fields[1].Value = "a a" })
	return books
}

// brokenChanges are changes that are not ok with smallBase, each by one thing.
func brokenChanges() []impl.PlanChange {
	return []impl.PlanChange{
		{},
		{Flight: "", What: 3, Number: 9, Value: "1"},
		{Flight: "D", What: 3, Number: 9, Value: "1"},
		{Flight: "123456789", What: 3, Number: 9, Value: "1"},
		{Flight: "d", What: 0, Number: 9, Value: "1"},
		{Flight: "d", What: 6, Number: 9, Value: "1"},
		{Flight: "d", What: 3, Number: 0, Value: "1"},
		{Flight: "d", What: 3, Number: -1, Value: "1"},
		{Flight: "d", What: 3, Number: 1000001, Value: "1"},
		{Flight: "d", What: 3, Number: 9, Value: "7"},
		{Flight: "d", What: 3, Number: 9, Value: ""},
		{Flight: "d", What: 1, Number: 9, Value: "a"},
		{Flight: "d", What: 2, Number: 9, Value: "6 5"},
		{Flight: "d", What: 4, Number: 9, Value: "a d"},
		{Flight: "d", What: 5, Number: 9, Value: "shut"},
	}
}

func cloneBase(b impl.PlanBase) impl.PlanBase {
	return impl.PlanBase{Kinds: cloneList(b.Kinds), Points: cloneList(b.Points)}
}

// plainBook is a book in which all empty lists are nil, so that books can be held against each other.
func plainBook(b impl.PlanBook) impl.PlanBook {
	plain := impl.PlanBook{Base: impl.PlanBase{Kinds: plainList(b.Base.Kinds), Points: plainList(b.Base.Points)}}
	for _, e := range b.Entries {
		plain.Entries = append(plain.Entries, impl.PlanEntry{Name: e.Name, Fields: plainList(e.Fields)})
	}
	return plain
}

func sameBook(a, b impl.PlanBook) bool {
	return reflect.DeepEqual(plainBook(a), plainBook(b))
}

func checkBook(t *testing.T, what string, got, want impl.PlanBook) {
	t.Helper()
	if !sameBook(got, want) {
		t.Fatalf("%s: %+v, not %+v", what, got, want)
	}
}

// drawSaid is a change of one of some flights that is ok with a base, made at random. Numbers are few, so that many are equal.
func drawSaid(r *rand.Rand, base impl.PlanBase, flights []string) impl.PlanChange {
	for {
		c := impl.PlanChange{Flight: flights[r.IntN(len(flights))], What: 1 + r.IntN(5), Number: 1 + r.IntN(4)}
		if r.IntN(4) == 0 {
			c.Number = []int{9, 10, 11, 99, 100, 999999, 1000000}[r.IntN(7)]
		}
		c.Value = drawFitting(r, base, c.What)
		if c.What == 2 && r.IntN(2) == 0 {
			c.Value = []string{"1 2", "1 20", "1 3", "10 10", "2 2", "9 10"}[r.IntN(6)]
		}
		if fitsByForms(base, c.What, c.Value) {
			return c
		}
	}
}

// drawSaids are some of them, at most so many.
func drawSaids(r *rand.Rand, base impl.PlanBase, flights []string, most int) []impl.PlanChange {
	var list []impl.PlanChange
	for range r.IntN(most + 1) {
		list = append(list, drawSaid(r, base, flights))
	}
	return list
}

// mixed is a list in another order, with some of it twice or more often.
func mixed(r *rand.Rand, list []impl.PlanChange) []impl.PlanChange {
	again := slices.Clone(list)
	for range list {
		if r.IntN(3) == 0 {
			again = append(again, list[r.IntN(len(list))])
		}
	}
	r.Shuffle(len(again), func(i, k int) { again[i], again[k] = again[k], again[i] })
	return again
}

// fenceBook is a copy of a book with something behind the end of each of its lists.
func fenceBook(b impl.PlanBook) impl.PlanBook {
	fenced := impl.PlanBook{Base: fenceBase(cloneBase(b.Base)), Entries: cloneList(b.Entries)}
	for i, e := range fenced.Entries {
		fenced.Entries[i].Fields = append(cloneList(e.Fields), impl.PlanField{What: 77})[:len(e.Fields)]
	}
	fence := impl.PlanEntry{Name: "fence", Fields: []impl.PlanField{{What: 77}}}
	fenced.Entries = append(fenced.Entries, fence)[:len(fenced.Entries)]
	return fenced
}

// wholeBook is a copy of a book with its lists up to the ends of their room.
func wholeBook(b impl.PlanBook) impl.PlanBook {
	whole := impl.PlanBook{Base: wholeBase(b.Base), Entries: cloneList(b.Entries[:cap(b.Entries)])}
	for i, e := range whole.Entries {
		whole.Entries[i].Fields = cloneList(e.Fields[:cap(e.Fields)])
	}
	return whole
}

// room is where a list lies, its spare room included.
type room struct {
	from uintptr
	to   uintptr
	path string
}

// roomsOf is where all lists of a value lie.
func roomsOf(v reflect.Value, path string) []room {
	var rooms []room
	switch v.Kind() {
	case reflect.Struct:
		for i := range v.NumField() {
			rooms = append(rooms, roomsOf(v.Field(i), path+"."+v.Type().Field(i).Name)...)
		}
	case reflect.Slice:
		whole := v.Slice(0, v.Cap())
		size := uintptr(v.Cap()) * v.Type().Elem().Size()
		if size > 0 {
			rooms = append(rooms, room{from: v.Pointer(), to: v.Pointer() + size, path: path})
		}
		for i := range whole.Len() {
			rooms = append(rooms, roomsOf(whole.Index(i), fmt.Sprintf("%s[%d]", path, i))...)
		}
	}
	return rooms
}

// sharedRooms tells which lists of some answers lie where another one of them does, or one of some arguments.
func sharedRooms(answers, arguments []any) []string {
	var fresh, given []room
	for _, one := range answers {
		fresh = append(fresh, roomsOf(reflect.ValueOf(one), "answer")...)
	}
	for _, one := range arguments {
		given = append(given, roomsOf(reflect.ValueOf(one), "argument")...)
	}
	var shared []string
	for i, a := range fresh {
		for _, b := range slices.Concat(fresh[:i], given) {
			if a.from < b.to && b.from < a.to {
				shared = append(shared, a.path+" and "+b.path)
			}
		}
	}
	return shared
}

func wantNewMemory(t *testing.T, what string, answers []any, arguments ...any) {
	t.Helper()
	if shared := sharedRooms(answers, arguments); len(shared) > 0 {
		t.Errorf("%s: shared memory: %q", what, shared)
	}
}

func TestSharedRoomsAreTold(t *testing.T) {
	b := smallBook()
	if got := len(roomsOf(reflect.ValueOf(b), "")); got < 5 {
		t.Errorf("%d lists of a book with two entries", got)
	}
	piece := b.Entries[0].Fields[:1]
	if got := sharedRooms([]any{piece}, []any{b}); len(got) != 1 {
		t.Errorf("a piece of a list of a book: %q", got)
	}
	if got := sharedRooms([]any{b, piece}, nil); len(got) != 1 {
		t.Errorf("a book and a piece of one of its lists: %q", got)
	}
	if got := sharedRooms([]any{b}, []any{smallBook()}); len(got) != 0 {
		t.Errorf("two books: %q", got)
	}
}
