package tests

import (
	"fmt"
	"math/rand/v2"
	"reflect"
	"slices"
	"testing"

	"loop.example/lapwing/impl"
)

func wantNews(t *testing.T, what string, a, b impl.PlanBook, want []impl.PlanChange) {
	t.Helper()
	if got := impl.PlanNews(a, b); !slices.Equal(got, want) {
		t.Errorf("%s: %+v, not %+v", what, got, want)
	}
}

func TestNewsByHand(t *testing.T) {
	a := smallBook()
	b := bookOf(smallBase(), said("c level 1 1", "d kind 9 jet", "d time 5 5 60", "d route 1 b a", "m kind 3 jet", "m level 4 1", "m state 1 closed", "z state 7 closed"))
	wantNews(t, "what is later, or new", a, b, said("c level 1 1", "d kind 9 jet", "d time 5 5 60", "m level 4 1", "z state 7 closed"))
	wantNews(t, "the other way round", b, a, said("d route 2 a b", "m state 1 open"))
	wantNews(t, "of itself", b, b, nil)
	empty := impl.PlanBook{Base: smallBase()}
	wantNews(t, "to an empty book", empty, b, changesOf(b))
	wantNews(t, "of an empty book", b, empty, nil)
	wantNews(t, "of two empty books", empty, empty, nil)
	wantNews(t, "all that may be said", impl.PlanBook{}, fullBook(), changesOf(fullBook()))
	wantNews(t, "of nothing", impl.PlanBook{}, impl.PlanBook{}, nil)
}

// Of one thing that both say, at each two Numbers and Values.
func TestNewsOfOneThing(t *testing.T) {
	for what, values := range valuesInOrder {
		for i, one := range values {
			for k, other := range values {
				for _, n := range []int{1, 9, 10, 1000000} {
					for _, m := range []int{1, 9, 10, 1000000} {
						known := impl.PlanChange{Flight: "k", What: what, Number: n, Value: one}
						told := impl.PlanChange{Flight: "k", What: what, Number: m, Value: other}
						var want []impl.PlanChange
						if m > n || m == n && k > i {
							want = []impl.PlanChange{told}
						}
						wantNews(t, "one thing", bookOf(smallBase(), []impl.PlanChange{known}), bookOf(smallBase(), []impl.PlanChange{told}), want)
					}
				}
			}
		}
	}
}

// News is told entry by entry, and of each entry by What, whatever the Numbers are.
func TestNewsIsInOrder(t *testing.T) {
	forms := []string{"- state 9 open", "0 kind 8 jet", "a level 7 1", "a state 1 open", "a- kind 6 glider", "a- route 2 c a", "ab time 5 1 1", "b level 1 1"}
	b := bookOf(smallBase(), said(forms...))
	for at := range forms {
		for to := at; to <= len(forms); to++ {
			a := bookOf(smallBase(), append(said(forms[:at]...), said(forms[to:]...)...))
			wantNews(t, fmt.Sprint("from ", at, " to ", to), a, b, said(forms[at:to]...))
		}
	}
}

// Bases need not be the same for news.
func TestNewsOfOtherBases(t *testing.T) {
	b := flightsBook("d", "k")
	b.Base.Kinds[0].Slow = 10
	wantNews(t, "other bases", smallBook(), b, said("d level 1 1", "k level 1 1"))
	wantNews(t, "other bases, the other way round", b, smallBook(), changesOf(smallBook()))
}

func TestNewsOfBooksThatAreNotOk(t *testing.T) {
	for what, broken := range brokenBooks() {
		for _, fine := range []impl.PlanBook{smallBook(), fullBook(), flightsBook("a", "z"), {}} {
			wantNews(t, what, broken, fine, nil)
			wantNews(t, what, fine, broken, nil)
		}
		wantNews(t, what+", twice", broken, broken, nil)
	}
}

func TestNewsAtRandom(t *testing.T) {
	r := rand.New(rand.NewPCG(14, 4))
	told := 0
	for range 3000 {
		base := drawBase(r)
		flights := drawNames(r, 16)
		a := bookOf(base, drawSaids(r, base, flights[:12], 50))
		b := bookOf(base, drawSaids(r, base, flights[r.IntN(5):][:12], 50))
		var want []impl.PlanChange
		for _, c := range changesOf(b) {
			if !slices.ContainsFunc(changesOf(a), func(one impl.PlanChange) bool {
				return one.Flight == c.Flight && one.What == c.What && !laterThan(c, one)
			}) {
				want = append(want, c)
			}
		}
		told += len(want)
		wantNews(t, "at random", a, b, want)
	}
	if told < 10000 {
		t.Errorf("too little news: %d", told)
	}
}

// Promise 13: a merged book is what one says and PlanNews of the other taken in.
func TestMergeIsNewsTakenIn(t *testing.T) {
	r := rand.New(rand.NewPCG(13, 4))
	count := map[int]int{}
	for range 2500 {
		base := drawBase(r)
		flights := drawNames(r, 14)
		a := bookOf(base, drawSaids(r, base, flights[:12], 50))
		b := bookOf(base, drawSaids(r, base, flights[r.IntN(3):][:12], 50))
		merged, code := impl.PlanMerge(a, b)
		count[code]++
		if code == 3 {
			continue
		}
		for _, books := range [][2]impl.PlanBook{{a, b}, {b, a}} {
			news := impl.PlanNews(books[0], books[1])
			got, codes := impl.PlanTakeAll(books[0], news)
			if !slices.Equal(codes, make([]int, len(news))) {
				t.Fatalf("codes %v of %+v", codes, news)
			}
			checkBook(t, "news taken in", got, merged)
			wantNews(t, "when all is known", merged, books[1], nil)
		}
	}
	if count[0] < 500 || count[3] < 100 || count[0]+count[3] != 2500 {
		t.Errorf("too few of one kind: %v", count)
	}
}

func wantTakeAll(t *testing.T, what string, b impl.PlanBook, list []impl.PlanChange, want impl.PlanBook, wantCodes ...int) {
	t.Helper()
	got, codes := impl.PlanTakeAll(b, list)
	if !slices.Equal(codes, wantCodes) {
		t.Errorf("%s: codes %v, not %v", what, codes, wantCodes)
	}
	checkBook(t, what, got, want)
}

func TestTakeAllOfNoChanges(t *testing.T) {
	for _, b := range []impl.PlanBook{smallBook(), fullBook(), {Base: smallBase()}, {}} {
		wantTakeAll(t, "no changes", b, nil, b)
		wantTakeAll(t, "an empty list", b, []impl.PlanChange{}, b)
	}
}

func TestTakeAllIntoBooksThatAreNotOk(t *testing.T) {
	for what, b := range brokenBooks() {
		for _, list := range [][]impl.PlanChange{nil, said("d level 9 1"), said("z level 9 1", "m level 9 1"), brokenChanges()} {
			wantTakeAll(t, what, b, list, impl.PlanBook{})
		}
	}
}

func TestTakeAllCodes(t *testing.T) {
	wrong := impl.PlanChange{Flight: "d", What: 3, Number: 9, Value: "7"}
	list := slices.Concat([]impl.PlanChange{wrong}, said("d level 9 1", "d level 8 2"), []impl.PlanChange{wrong, {}}, said("a state 1 open", "d level 9 2"), []impl.PlanChange{wrong})
	want := bookOf(smallBase(), append(changesOf(smallBook()), said("d level 9 2", "a state 1 open")...))
	wantTakeAll(t, "refused and taken", smallBook(), list, want, 2, 0, 0, 2, 2, 0, 0, 2)
	all := brokenChanges()
	wantTakeAll(t, "all refused", smallBook(), all, smallBook(), slices.Repeat([]int{2}, len(all))...)

	ten := flightsBook(flightNames(0, 10)...)
	wrong.Flight = "x"
	list = slices.Concat(said("x level 1 1", "f09 level 2 2"), []impl.PlanChange{wrong}, said("y level 1 1", "z level 1 1", "x state 1 open", "a level 1 1", "y level 2 2", "z level 3 3", "f00 kind 1 jet"), []impl.PlanChange{{Flight: "z", What: 3, Number: 0, Value: "1"}})
	want = bookOf(smallBase(), append(changesOf(ten), said("x level 1 1", "f09 level 2 2", "y level 2 2", "x state 1 open", "f00 kind 1 jet")...))
	wantTakeAll(t, "until there is no room", ten, list, want, 0, 0, 2, 0, 3, 0, 3, 0, 3, 0, 2)
}

// What is taken in first takes the room of what comes behind.
func TestTakeAllInOrder(t *testing.T) {
	eleven := flightsBook(flightNames(0, 11)...)
	one, other := said("a level 1 1")[0], said("b level 1 1")[0]
	wantTakeAll(t, "one and the other", eleven, []impl.PlanChange{one, other}, bookOf(smallBase(), append(changesOf(eleven), one)), 0, 3)
	wantTakeAll(t, "the other and one", eleven, []impl.PlanChange{other, one}, bookOf(smallBase(), append(changesOf(eleven), other)), 0, 3)
}

func TestTakeAllIsTakeAgainAndAgain(t *testing.T) {
	r := rand.New(rand.NewPCG(14, 5))
	count := map[int]int{}
	for range 1000 {
		base := drawBase(r)
		flights := drawNames(r, 16)
		begin := bookOf(base, drawSaids(r, base, flights[:12], 20))
		list := drawSaids(r, base, flights, 30)
		for i := range list {
			if r.IntN(4) == 0 {
				list[i] = drawChange(r, base)
			}
		}
		want, wantCodes := begin, []int(nil)
		for _, c := range list {
			var code int
			want, code = impl.PlanTake(want, c)
			wantCodes = append(wantCodes, code)
			count[code]++
		}
		wantTakeAll(t, "at random", begin, list, want, wantCodes...)
	}
	if count[0] < 3000 || count[2] < 1000 || count[3] < 300 {
		t.Errorf("too few of one kind: %v", count)
	}
}

func TestTakeAllOfVeryMany(t *testing.T) {
	var list []impl.PlanChange
	for i := range 100000 {
		list = append(list, impl.PlanChange{Flight: "k", What: 3, Number: 1 + i, Value: "1"})
	}
	got, codes := impl.PlanTakeAll(smallBook(), list)
	checkBook(t, "very many", got, bookOf(smallBase(), append(changesOf(smallBook()), list[99999])))
	if !slices.Equal(codes, make([]int, 100000)) {
		t.Error("some of very many are refused")
	}
}

func TestNewsIsNotWrittenInto(t *testing.T) {
	list := append(brokenChanges(), said("a level 9 1", "d time 9 1 1", "z level 9 1", "f06 level 9 2", "flight03 level 1 1")...)
	fence := append(slices.Clone(list), impl.PlanChange{Flight: "fence"})
	for _, book := range someBooks() {
		b := fenceBook(book)
		before := wholeBook(b)
		given := slices.Clone(fence)
		impl.PlanTakeAll(b, given[:len(list)])
		if !slices.Equal(given, fence) {
			t.Errorf("the changes are written into: %+v", given)
		}
		for _, other := range someBooks() {
			o := fenceBook(other)
			otherBefore := wholeBook(o)
			impl.PlanNews(b, o)
			impl.PlanNews(o, b)
			if !reflect.DeepEqual(wholeBook(o), otherBefore) {
				t.Errorf("written into: %+v", other)
			}
		}
		if !reflect.DeepEqual(wholeBook(b), before) {
			t.Errorf("written into: %+v", book)
		}
	}
}

func TestNewsIsNewMemory(t *testing.T) {
	list := append(brokenChanges(), said("a level 9 1", "d time 9 1 1", "z level 9 1", "f06 level 9 2", "flight03 level 1 1")...)
	for _, book := range someBooks() {
		b := fenceBook(book)
		for count := range len(list) + 1 {
			given := append(slices.Clone(list[:count]), impl.PlanChange{Flight: "fence"})[:count]
			got, codes := impl.PlanTakeAll(b, given)
			again, codesAgain := impl.PlanTakeAll(b, given)
			wantNewMemory(t, "PlanTakeAll", []any{got, codes, again, codesAgain}, b, given)
		}
		for _, other := range someBooks() {
			o := fenceBook(other)
			wantNewMemory(t, "PlanNews", []any{impl.PlanNews(b, o), impl.PlanNews(b, o), impl.PlanNews(o, b)}, b, o)
		}
	}
}
