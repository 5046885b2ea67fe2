package tests

import (
	"cmp"
	"fmt"
	"math/rand/v2"
	"reflect"
	"regexp"
	"slices"
	"strconv"
	"strings"
	"testing"

	"loop.example/lapwing/impl"
)

// planLines are the lines that say a book, in the order of chapter 15.
func planLines(b impl.PlanBook) []string {
	var lines []string
	for _, k := range b.Base.Kinds {
		lines = append(lines, fmt.Sprintf("kind %s %d %d", k.Name, k.Quick, k.Slow))
	}
	for _, p := range b.Base.Points {
		lines = append(lines, fmt.Sprintf("point %s %d %d", p.Name, p.X, p.Y))
	}
	return append(lines, changeLines(changesOf(b))...)
}

// changeLines are the forms of changes.
func changeLines(list []impl.PlanChange) []string {
	var lines []string
	for _, c := range list {
		lines = append(lines, fmt.Sprintf("set %s %s %d %s", c.Flight, strings.Fields("kind time level route state")[c.What-1], c.Number, c.Value))
	}
	return lines
}

// baseForm is what a line of a kind or a point looks like.
var baseForm = regexp.MustCompile(`\A(kind|point) ([a-z0-9-]{1,8}) (0|[1-9][0-9]{0,6}) (0|[1-9][0-9]{0,6})\z`)

// planFaultByTable says what chapter 15 says, in another way: each line is held against what the lines ahead
// said. It gives the book as well, if there is no fault.
func planFaultByTable(text string) (impl.PlanBook, impl.PlanFault) {
	lines := strings.Split(text, "\n")
	if lines[len(lines)-1] == "" {
		lines = lines[:len(lines)-1]
	}
	if len(text) > 10000 || len(lines) > 200 {
		return impl.PlanBook{}, impl.PlanFault{Line: 0, Code: 1}
	}
	var base impl.PlanBase
	var list []impl.PlanChange
	for i, line := range lines {
		code := 2
		switch word := strings.Split(line, " ")[0]; word {
		case "kind", "point":
			code = baseLineByTable(&base, word, line)
		case "set":
			code = changeLineByTable(base, &list, line)
		}
		if code != 0 {
			return impl.PlanBook{}, impl.PlanFault{Line: i + 1, Code: code}
		}
	}
	slices.SortFunc(base.Kinds, func(a, b impl.PlanKind) int { return cmp.Compare(a.Name, b.Name) })
	slices.SortFunc(base.Points, func(a, b impl.PlanPoint) int { return cmp.Compare(a.Name, b.Name) })
	return bookOf(base, list), impl.PlanFault{}
}

// baseLineByTable is the fault of a line that begins as one of a kind or a point; what it says comes into the base.
func baseLineByTable(base *impl.PlanBase, word, line string) int {
	m := baseForm.FindStringSubmatch(line)
	if m == nil {
		return 3
	}
	first, _ := strconv.Atoi(m[3])
	second, _ := strconv.Atoi(m[4])
	if word == "kind" {
		switch {
		case first < 1 || first > second || second > 50:
			return 3
		case slices.ContainsFunc(base.Kinds, func(k impl.PlanKind) bool { return k.Name == m[2] }):
			return 4
		case len(base.Kinds) >= 6:
			return 6
		}
		base.Kinds = append(base.Kinds, impl.PlanKind{Name: m[2], Quick: first, Slow: second})
		return 0
	}
	switch {
	case first > 15 || second > 15:
		return 3
	case slices.ContainsFunc(base.Points, func(p impl.PlanPoint) bool { return p.Name == m[2] }):
		return 4
	case slices.ContainsFunc(base.Points, func(p impl.PlanPoint) bool { return p.X == first && p.Y == second }):
		return 5
	case len(base.Points) >= 16:
		return 6
	}
	base.Points = append(base.Points, impl.PlanPoint{Name: m[2], X: first, Y: second})
	return 0
}

// changeLineByTable is the fault of a line that begins as one of a change; what it says comes into the list.
func changeLineByTable(base impl.PlanBase, list *[]impl.PlanChange, line string) int {
	m := changeForm.FindStringSubmatch(line)
	if m == nil {
		return 3
	}
	number, _ := strconv.Atoi(m[3])
	c := impl.PlanChange{Flight: m[1], What: 1 + slices.Index([]string{"kind", "time", "level", "route", "state"}, m[2]), Number: number, Value: m[4]}
	flights := map[string]int{}
	for _, one := range *list {
		flights[one.Flight]++
	}
	switch {
	case !fitsByForms(base, c.What, c.Value):
		return 7
	case flights[c.Flight] == 0 && len(flights) >= 12:
		return 6
	}
	*list = append(*list, c)
	return 0
}

func wantPlanFault(t *testing.T, text string, line, code int) {
	t.Helper()
	b, f := impl.PlanParse(text)
	if want := (impl.PlanFault{Line: line, Code: code}); f != want {
		t.Errorf("fault %+v, not %+v, of %.300q", f, want, text)
	}
	if !reflect.DeepEqual(plainBook(b), impl.PlanBook{}) {
		t.Errorf("a book beside a fault, of %.300q: %+v", text, b)
	}
}

func wantPlanBook(t *testing.T, text string, want impl.PlanBook) {
	t.Helper()
	b, f := impl.PlanParse(text)
	if f != (impl.PlanFault{}) || !impl.PlanBookOk(b) || !sameBook(b, want) {
		t.Errorf("%+v and %+v, not %+v, of %.300q", b, f, want, text)
	}
}

// checkPlanText holds what a text is read as against the table. It gives the fault.
func checkPlanText(t *testing.T, text string) impl.PlanFault {
	t.Helper()
	want, wantFault := planFaultByTable(text)
	b, f := impl.PlanParse(text)
	if f != wantFault {
		t.Fatalf("fault %+v, not %+v, of %q", f, wantFault, text)
	}
	checkBook(t, "of "+strconv.Quote(text), b, want)
	if !okByRules(b) || !impl.PlanBookOk(b) {
		t.Fatalf("not ok: %+v, of %q", b, text)
	}
	return f
}

// drawBook is a book that is ok, made at random; at times it has as much as may be, or nothing, of one thing or another.
func drawBook(r *rand.Rand) impl.PlanBook {
	base := drawBase(r)
	switch r.IntN(6) {
	case 0:
		base.Kinds = fullBase().Kinds
	case 1:
		base.Kinds = nil
	case 2:
		base.Points = fullBase().Points
	case 3:
		base.Points = nil
	case 4:
		base = fullBase()
	}
	most := []int{0, 1, 3, 12}[r.IntN(4)]
	if most == 0 {
		return impl.PlanBook{Base: base}
	}
	return bookOf(base, drawSaids(r, base, drawNames(r, most), 80))
}

// freeLines are the same lines in another order, each change behind the kind or the points that it speaks of.
func freeLines(r *rand.Rand, lines []string) []string {
	rest := slices.Clone(lines)
	r.Shuffle(len(rest), func(i, k int) { rest[i], rest[k] = rest[k], rest[i] })
	there := map[string]int{}
	var free []string
	for len(rest) > 0 {
		at := slices.IndexFunc(rest, func(line string) bool { return allThere(there, line) })
		words := strings.Split(rest[at], " ")
		there[words[0]+" "+words[1]]++
		free = append(free, rest[at])
		rest = slices.Delete(rest, at, at+1)
	}
	return free
}

// allThere says whether all kinds and points that a line speaks of are there.
func allThere(there map[string]int, line string) bool {
	words := strings.Split(line, " ")
	if words[0] != "set" || words[2] != "kind" && words[2] != "route" {
		return true
	}
	first := map[string]string{"kind": "kind ", "route": "point "}[words[2]]
	return !slices.ContainsFunc(words[4:], func(name string) bool { return there[first+name] == 0 })
}

// bendPlanLines changes lines at random: bends one, leaves it out, doubles it, moves it, or brings in others.
func bendPlanLines(r *rand.Rand, lines []string) []string {
	if len(lines) == 0 {
		return []string{[]string{"", "kind jet 1 2", "point a 0 0", "set k state 1 open", "x"}[r.IntN(5)]}
	}
	i := r.IntN(len(lines))
	line := lines[i]
	switch r.IntN(9) {
	case 0, 1:
		lines[i] = bendText(r, line)
	case 2:
		return slices.Delete(lines, i, i+1)
	case 3:
		return slices.Insert(lines, r.IntN(len(lines)+1), line)
	case 4:
		lines = slices.Delete(lines, i, i+1)
		return slices.Insert(lines, r.IntN(len(lines)+1), line)
	case 5:
		lines[i] = bendWords(r, line, lines[r.IntN(len(lines))])
	case 6:
		return slices.Insert(lines, r.IntN(len(lines)+1), []string{"", " ", "#", "set", "kind", "point", "sky 1 1 1"}[r.IntN(7)])
	case 7:
		for n := range r.IntN(8) {
			lines = slices.Insert(lines, r.IntN(len(lines)+1), fmt.Sprintf("kind x%d %d %d", n, r.IntN(4), 3+r.IntN(49)))
		}
	case 8:
		for n := range r.IntN(18) {
			lines = slices.Insert(lines, r.IntN(len(lines)+1), fmt.Sprintf("%s %d %d", []string{"point y" + strconv.Itoa(n), "set y" + strconv.Itoa(n) + " time 1"}[r.IntN(2)], r.IntN(9), 9+r.IntN(8)))
		}
	}
	return lines
}

// bendWords changes one word of a line, at random, for one of another line or of some.
func bendWords(r *rand.Rand, line, other string) string {
	words, others := strings.Split(line, " "), strings.Split(other, " ")
	pool := strings.Fields("kind point set time level route state open closed a b 0 1 7 15 16 50 51 01 10000 10001 1000001 9999999 10000000 -1 +1 a_b abcdefghi \xff")
	at := r.IntN(len(words))
	switch r.IntN(5) {
	case 0:
		words[at] = pool[r.IntN(len(pool))]
	case 1:
		words[at] = others[min(at, len(others)-1)]
	case 2:
		words = slices.Delete(words, at, at+1)
	case 3:
		words = slices.Insert(words, at, words[at])
	case 4:
		words = slices.Insert(words, at, "")
	}
	return strings.Join(words, " ")
}

// drawPlanText is the text of a book, changed at random; most have faults of one kind or another.
func drawPlanText(r *rand.Rand) string {
	b := drawBook(r)
	lines := append(planLines(b), changeLines(drawSaids(r, b.Base, drawNames(r, 3), 5))...)
	if r.IntN(4) > 0 {
		lines = freeLines(r, lines)
	}
	for range r.IntN(4) {
		lines = bendPlanLines(r, lines)
	}
	return openEnd(r, textOf(lines))
}

// longText is a text of fullBook that has so many bytes, at least 9000: things are said once more, that are said later already.
func longText(t *testing.T, size int) string {
	t.Helper()
	text := textOf(planLines(fullBook()))
	again := "set flight00 route 1 point-00 point-01 point-02 point-03 point-04 point-05 point-06 point-07\n"
	for len(text) < size-200 {
		text += again
	}
	rest := size - len(text)
	for left := (rest + 28) / 29; left > 0; left-- {
		line := fmt.Sprintf("set flight00 level 1%s 1\n", strings.Repeat("0", rest/left-23))
		text += line
		rest -= len(line)
	}
	if len(text) != size || strings.Count(text, "\n") > 200 {
		t.Fatalf("%d bytes, not %d, and %d lines", len(text), size, strings.Count(text, "\n"))
	}
	return text
}
