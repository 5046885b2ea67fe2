package tests

import (
	"fmt"
	"math"
	"math/rand/v2"
	"reflect"
	"slices"
	"strings"
	"testing"

	"loop.example/lapwing/impl"
)

// smallBase is a base that is ok, with some of everything.
func smallBase() impl.PlanBase {
	return impl.PlanBase{
		Kinds:  []impl.PlanKind{{Name: "glider", Quick: 3, Slow: 9}, {Name: "jet", Quick: 1, Slow: 2}},
		Points: []impl.PlanPoint{{Name: "a", X: 0, Y: 0}, {Name: "b", X: 5, Y: 1}, {Name: "c", X: 1, Y: 5}},
	}
}

// fullBase is a base that is ok and meets every limit.
func fullBase() impl.PlanBase {
	b := impl.PlanBase{}
	for i := range 6 {
		b.Kinds = append(b.Kinds, impl.PlanKind{Name: fmt.Sprintf("kind--%02d", i), Quick: 50, Slow: 50})
	}
	for i := range 16 {
		b.Points = append(b.Points, impl.PlanPoint{Name: fmt.Sprintf("point-%02d", i), X: i, Y: 15 - i})
	}
	return b
}

// drawBase is a base that is ok, made at random.
func drawBase(r *rand.Rand) impl.PlanBase {
	b := impl.PlanBase{}
	for _, name := range drawNames(r, r.IntN(7)) {
		slow := 1 + r.IntN(50)
		b.Kinds = append(b.Kinds, impl.PlanKind{Name: name, Quick: 1 + r.IntN(slow), Slow: slow})
	}
	cells := r.Perm(256)
	for i, name := range drawNames(r, r.IntN(17)) {
		b.Points = append(b.Points, impl.PlanPoint{Name: name, X: cells[i] % 16, Y: cells[i] / 16})
	}
	return b
}

// baseCase is a change of a base, and whether it is ok with it.
type baseCase struct {
	what   string
	ok     bool
	change func(b *impl.PlanBase)
}

func wantBases(t *testing.T, base func() impl.PlanBase, cases []baseCase) {
	t.Helper()
	if !impl.PlanBaseOk(base()) {
		t.Fatalf("not ok as it is: %+v", base())
	}
	for _, c := range cases {
		b := base()
		c.change(&b)
		if got := impl.PlanBaseOk(b); got != c.ok {
			t.Errorf("%s: PlanBaseOk is %v of %+v", c.what, got, b)
		}
	}
}

// brokenBases are bases that are not ok, though each has the kind jet and the points a and b.
func brokenBases() map[string]impl.PlanBase {
	bases := map[string]impl.PlanBase{}
	broken := func(what string, change func(b *impl.PlanBase)) {
		b := smallBase()
		change(&b)
		bases[what] = b
	}
	broken("a kind that is too quick", func(b *impl.PlanBase) { b.Kinds[0].Quick = 0 })
	broken("kinds in the wrong order", func(b *impl.PlanBase) { slices.Reverse(b.Kinds) })
	broken("a kind with no name", func(b *impl.PlanBase) { b.Kinds[0].Name = "" })
	broken("too many kinds", func(b *impl.PlanBase) {
		for i := range 5 {
			b.Kinds = append(b.Kinds, impl.PlanKind{Name: fmt.Sprint("k", i), Quick: 1, Slow: 1})
		}
	})
	broken("a point outside", func(b *impl.PlanBase) { b.Points[2].Y = 16 })
	broken("points in the wrong order", func(b *impl.PlanBase) { slices.Reverse(b.Points) })
	broken("two points in one cell", func(b *impl.PlanBase) { b.Points[2].X, b.Points[2].Y = 5, 1 })
	broken("too many points", func(b *impl.PlanBase) {
		for i := range 14 {
			b.Points = append(b.Points, impl.PlanPoint{Name: fmt.Sprintf("p%02d", i), X: i, Y: 9})
		}
	})
	return bases
}

func TestBrokenBasesAreNotOk(t *testing.T) {
	for what, b := range brokenBases() {
		if impl.PlanBaseOk(b) {
			t.Errorf("ok with %s: %+v", what, b)
		}
	}
}

func TestBaseLimits(t *testing.T) {
	got := []int{impl.PlanMaxName, impl.PlanMaxSide, impl.PlanMaxLevel, impl.PlanMaxTick, impl.PlanMaxSlow, impl.PlanMaxKinds, impl.PlanMaxPoints, impl.PlanMaxNumber, impl.PlanMaxRoute}
	if !slices.Equal(got, []int{8, 16, 6, 10000, 50, 6, 16, 1000000, 8}) {
		t.Error("not the numbers of the document", got)
	}
}

func TestBaseOfNothing(t *testing.T) {
	wantBases(t, smallBase, []baseCase{
		{"nothing", true, func(b *impl.PlanBase) { *b = impl.PlanBase{} }},
		{"empty lists", true, func(b *impl.PlanBase) { *b = impl.PlanBase{Kinds: []impl.PlanKind{}, Points: []impl.PlanPoint{}} }},
		{"no kinds", true, func(b *impl.PlanBase) { b.Kinds = nil }},
		{"no points", true, func(b *impl.PlanBase) { b.Points = nil }},
		{"a kind of nothing", false, func(b *impl.PlanBase) { b.Kinds = make([]impl.PlanKind, 1) }},
		{"a point of nothing", false, func(b *impl.PlanBase) { b.Points = make([]impl.PlanPoint, 1) }},
	})
}

func TestBaseAtAllLimits(t *testing.T) {
	wantBases(t, fullBase, []baseCase{
		{"nothing changed", true, func(b *impl.PlanBase) {}},
		{"one kind too many", false, func(b *impl.PlanBase) {
			b.Kinds = append(b.Kinds, impl.PlanKind{Name: "l", Quick: 1, Slow: 1})
		}},
		{"that kind without one too many", true, func(b *impl.PlanBase) {
			b.Kinds[5] = impl.PlanKind{Name: "l", Quick: 1, Slow: 1}
		}},
		{"one point too many", false, func(b *impl.PlanBase) {
			b.Points = append(b.Points, impl.PlanPoint{Name: "q", X: 1, Y: 1})
		}},
		{"that point without one too many", true, func(b *impl.PlanBase) {
			b.Points[15] = impl.PlanPoint{Name: "q", X: 1, Y: 1}
		}},
		{"many kinds", false, func(b *impl.PlanBase) { b.Kinds = make([]impl.PlanKind, 100000) }},
		{"many points", false, func(b *impl.PlanBase) { b.Points = make([]impl.PlanPoint, 100000) }},
	})
}

func TestBaseTicksOfKinds(t *testing.T) {
	numbers := []int{math.MinInt, math.MinInt + 1, -50, -1, 0, 1, 2, 49, 50, 51, 52, math.MaxInt - 1, math.MaxInt}
	for _, quick := range numbers {
		for _, slow := range numbers {
			want := quick >= 1 && quick <= slow && slow <= 50
			for at := range 2 {
				b := smallBase()
				b.Kinds[at].Quick, b.Kinds[at].Slow = quick, slow
				if got := impl.PlanBaseOk(b); got != want {
					t.Errorf("kind %d with %d to %d: %v", at, quick, slow, got)
				}
			}
		}
	}
}

func TestBaseCellsOfPoints(t *testing.T) {
	numbers := []int{math.MinInt, math.MinInt + 1, -16, -2, -1, 0, 1, 14, 15, 16, 17, math.MaxInt - 1, math.MaxInt}
	for _, x := range numbers {
		for _, y := range numbers {
			want := x >= 0 && x <= 15 && y >= 0 && y <= 15
			for at := range 2 {
				b := impl.PlanBase{Points: []impl.PlanPoint{{Name: "a", X: 7, Y: 7}, {Name: "b", X: 8, Y: 7}}}
				b.Points[at].X, b.Points[at].Y = x, y
				if got := impl.PlanBaseOk(b); got != want {
					t.Errorf("point %d at %d, %d: %v", at, x, y, got)
				}
			}
		}
	}
}

func TestBasePointsShareNoCell(t *testing.T) {
	set := func(place, x, y int) func(b *impl.PlanBase) {
		return func(b *impl.PlanBase) { b.Points[place].X, b.Points[place].Y = x, y }
	}
	wantBases(t, smallBase, []baseCase{
		{"the first and the second", false, set(1, 0, 0)},
		{"the first and the last", false, set(2, 0, 0)},
		{"the second and the last", false, set(2, 5, 1)},
		{"one X", true, set(2, 5, 5)},
		{"one Y", true, set(2, 1, 1)},
		{"X and Y changed over", true, set(2, 1, 5)},
	})
	for i := range 16 {
		for k := range i {
			b := fullBase()
			b.Points[i].X, b.Points[i].Y = b.Points[k].X, b.Points[k].Y
			if impl.PlanBaseOk(b) {
				t.Errorf("points %d and %d may be in one cell", k, i)
			}
		}
	}
}

// noNames are texts that are no name.
var noNames = []string{"", "abcdefghi", "a12345678", strings.Repeat("z", 5000), "A", "aB", "a_b", "a.b", "a b", " a", "a ", "a\n", "\na", "\x00", "a\x00", "\xff", "a\x80", "é", "\u0430", "日", "a/", "a:", "a`", "a{", "a,", "+", "#"}

// someNames are texts that are names.
var someNames = []string{"a", "z", "0", "9", "-", "--------", "00000000", "abcdefgh", "z9-a0", "-a", "a-", "007"}

func TestBaseNames(t *testing.T) {
	for i, name := range append(slices.Clone(someNames), noNames...) {
		want := i < len(someNames)
		kind := impl.PlanBase{Kinds: []impl.PlanKind{{Name: name, Quick: 1, Slow: 1}}}
		if got := impl.PlanBaseOk(kind); got != want {
			t.Errorf("a kind with the name %q: %v", name, got)
		}
		point := impl.PlanBase{Points: []impl.PlanPoint{{Name: name}}}
		if got := impl.PlanBaseOk(point); got != want {
			t.Errorf("a point with the name %q: %v", name, got)
		}
	}
}

// A kind and a point may have one name, and each list is in its own order.
func TestBaseNamesAscend(t *testing.T) {
	order := []string{"-", "-a", "0", "00", "9", "a", "a-", "a0", "aa", "ab", "b", "z", "zzzzzzzz"}
	for i, a := range order {
		for k, b := range order {
			kinds := []impl.PlanKind{{Name: a, Quick: 1, Slow: 1}, {Name: b, Quick: 1, Slow: 1}}
			points := []impl.PlanPoint{{Name: a, X: 1}, {Name: b, X: 2}}
			if got := impl.PlanBaseOk(impl.PlanBase{Kinds: kinds}); got != (i < k) {
				t.Errorf("kinds %q, %q: %v", a, b, got)
			}
			if got := impl.PlanBaseOk(impl.PlanBase{Points: points}); got != (i < k) {
				t.Errorf("points %q, %q: %v", a, b, got)
			}
			if got := impl.PlanBaseOk(impl.PlanBase{Kinds: kinds[:1], Points: points[1:]}); !got {
				t.Errorf("a kind %q and a point %q: %v", a, b, got)
			}
		}
	}
	wantBases(t, fullBase, []baseCase{
		{"the last kind has the name of the first", false, func(b *impl.PlanBase) { b.Kinds[5].Name = b.Kinds[0].Name }},
		{"the last point has the name of the first", false, func(b *impl.PlanBase) { b.Points[15].Name = b.Points[0].Name }},
		{"the last two kinds change places", false, func(b *impl.PlanBase) { b.Kinds[4], b.Kinds[5] = b.Kinds[5], b.Kinds[4] }},
		{"the last two points change places", false, func(b *impl.PlanBase) { b.Points[14], b.Points[15] = b.Points[15], b.Points[14] }},
	})
}

// okByLists says what chapter 11 says, in another way: list by list, and any two against each other.
func okByLists(b impl.PlanBase) bool {
	var kinds, points []string
	for _, k := range b.Kinds {
		kinds = append(kinds, k.Name)
		if k.Quick < 1 || k.Slow < k.Quick || k.Slow > 50 {
			return false
		}
	}
	for i, p := range b.Points {
		points = append(points, p.Name)
		if p.X < 0 || p.X > 15 || p.Y < 0 || p.Y > 15 {
			return false
		}
		for _, q := range b.Points[:i] {
			if p.X == q.X && p.Y == q.Y {
				return false
			}
		}
	}
	return len(kinds) <= 6 && len(points) <= 16 && namesAscend(kinds) && namesAscend(points)
}

// bendBase changes one thing of a base, at random, most often by little.
func bendBase(r *rand.Rand, b *impl.PlanBase) {
	var numbers []reflect.Value
	eachInt(reflect.ValueOf(b).Elem(), "", func(_ string, v reflect.Value) { numbers = append(numbers, v) })
	switch kind := r.IntN(6); {
	case kind == 0 && len(b.Kinds) > 0:
		b.Kinds[r.IntN(len(b.Kinds))].Name = drawNames(r, 1)[0]
	case kind == 1 && len(b.Points) > 0:
		b.Points[r.IntN(len(b.Points))].Name = drawNames(r, 1)[0]
	case kind == 2 && len(b.Points) > 0:
		p, q := b.Points[r.IntN(len(b.Points))], &b.Points[r.IntN(len(b.Points))]
		q.X, q.Y = p.X, p.Y
	case kind == 3:
		b.Kinds = append(b.Kinds, impl.PlanKind{Name: "zz", Quick: 1, Slow: 1})
	case kind == 4:
		b.Points = append(b.Points, impl.PlanPoint{Name: "zz", X: r.IntN(16), Y: r.IntN(16)})
	case len(numbers) > 0:
		v := numbers[r.IntN(len(numbers))]
		v.SetInt(v.Int() + int64(r.IntN(5)-2))
	}
}

func TestBasesAtRandom(t *testing.T) {
	r := rand.New(rand.NewPCG(11, 1))
	count := map[bool]int{}
	for range 8000 {
		b := drawBase(r)
		if !impl.PlanBaseOk(b) {
			t.Fatalf("not ok: %+v", b)
		}
		for range 3 {
			bendBase(r, &b)
			want := okByLists(b)
			count[want]++
			if got := impl.PlanBaseOk(b); got != want {
				t.Fatalf("PlanBaseOk is %v of %+v", got, b)
			}
		}
	}
	if count[true] < 1000 || count[false] < 1000 {
		t.Errorf("too few of one kind: %v", count)
	}
}

// wholeBase is a copy of a base with its lists up to the ends of their room.
func wholeBase(b impl.PlanBase) impl.PlanBase {
	return impl.PlanBase{Kinds: cloneList(b.Kinds[:cap(b.Kinds)]), Points: cloneList(b.Points[:cap(b.Points)])}
}

// fenceBase gives both lists of a base room behind their ends, with something in it.
func fenceBase(b impl.PlanBase) impl.PlanBase {
	b.Kinds = append(b.Kinds, impl.PlanKind{Name: "fence"})[:len(b.Kinds)]
	b.Points = append(b.Points, impl.PlanPoint{Name: "fence", X: 1})[:len(b.Points)]
	return b
}

func TestBasesAreNotWrittenInto(t *testing.T) {
	bases := brokenBases()
	bases["small"], bases["full"] = smallBase(), fullBase()
	for what, b := range bases {
		b = fenceBase(b)
		before := wholeBase(b)
		first := impl.PlanBaseOk(b)
		for _, value := range []string{"jet", "5 6", "3", "a b a", "open", "fence"} {
			for whatSaid := range 7 {
				impl.PlanFits(b, whatSaid, value)
				impl.PlanChangeOk(b, impl.PlanChange{Flight: "kl", What: whatSaid, Number: 1, Value: value})
			}
		}
		if !reflect.DeepEqual(wholeBase(b), before) {
			t.Errorf("%s: the base is written into", what)
		}
		if second := impl.PlanBaseOk(b); second != first {
			t.Errorf("%s: %v, then %v", what, first, second)
		}
	}
}
