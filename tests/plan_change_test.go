package tests

import (
	"fmt"
	"math"
	"math/rand/v2"
	"regexp"
	"slices"
	"strconv"
	"strings"
	"testing"

	"loop.example/lapwing/impl"
)

func wantFits(t *testing.T, b impl.PlanBase, what int, want bool, values ...string) {
	t.Helper()
	for _, value := range values {
		if got := impl.PlanFits(b, what, value); got != want {
			t.Errorf("PlanFits is %v of %d and %.100q", got, what, value)
		}
	}
}

func TestPlanWhats(t *testing.T) {
	whats := []int{impl.PlanOfKind, impl.PlanOfTime, impl.PlanOfLevel, impl.PlanOfRoute, impl.PlanOfState}
	if !slices.Equal(whats, []int{1, 2, 3, 4, 5}) {
		t.Error("not the numbers of the document", whats)
	}
}

func TestFitsKind(t *testing.T) {
	wantFits(t, smallBase(), 1, true, "jet", "glider")
	wantFits(t, smallBase(), 1, false, "", "je", "jets", "Jet", "JET", " jet", "jet ", "jet jet", "jet glider", "jet\n", "a", "b", "1", "jet\x00", "gliders", "-")
	wantFits(t, fullBase(), 1, true, "kind--00", "kind--05")
	wantFits(t, fullBase(), 1, false, "kind--06", "kind--0", "point-00")
	wantFits(t, impl.PlanBase{}, 1, false, "", "jet", "a")
}

func TestFitsTime(t *testing.T) {
	fit := []string{"0 0", "0 1", "5 5", "5 6", "9 10", "10 10", "99 100", "0 10000", "9999 10000", "10000 10000", "1 9999"}
	not := []string{
		"", " ", "5", "5 ", " 5", "0", "5 6 7", "0 0 0", "5 6 ", " 5 6", "5  6", "5\t6", "5\n6", "5 6\n", "\n5 6", "5\u00a06", "5,6", "5-6", "56", "5 6 x",
		"6 5", "1 0", "10 9", "10000 9999", "100 99",
		"0 10001", "10000 10001", "10001 10001", "5 99999", "5 999999", "5 9999999", "9999999 9999999", "9999999 5",
		"5 10000000", "5 00010000", "00000005 6", "10000000 6", "5 18446744073709551622", "18446744073709551621 6", "5 9223372036854775808", "5 4294967302",
		"05 6", "5 06", "00 0", "0 00", "000 000", "5 010000", "0000005 6", "5 0000006",
		"+5 6", "5 +6", "-5 6", "5 -6", "-0 0", "0 -0", "- -", "-1 0",
		"a b", "5 b", "a 6", "0x5 6", "5 0x6", "1e1 20", "5. 6", "5 6.", "5.0 6", "5_0 60", "5 6_0", "٥ ٦", "5 6\x00", "5 \xff", "\x80 6", "½ 1", "5 /", "5 :", "/ 5", ": 5",
	}
	for _, b := range []impl.PlanBase{smallBase(), fullBase(), {}} {
		wantFits(t, b, 2, true, fit...)
		wantFits(t, b, 2, false, not...)
		wantFits(t, b, 2, false, strings.Repeat("1 ", 5000)+"1", strings.Repeat(" ", 5000), strings.Repeat("0", 5000)+" 1", "1 "+strings.Repeat("9", 5000))
	}
}

func TestFitsLevel(t *testing.T) {
	not := []string{"", " ", "0", "7", "8", "9", "10", "16", "60", "61", "1000001", "10000001", "18446744073709551617", "4294967297", "00", "01", "06", "001", "0000001", "+1", "-1", "-0", "1 ", " 1", "1 2", "1\n", "\n1", "1\x00", "a", "1a", "a1", "1.", "1.0", "0x1", "1e0", "١", "\xb1", "/", ":", "1_0"}
	for _, b := range []impl.PlanBase{smallBase(), fullBase(), {}} {
		wantFits(t, b, 3, true, "1", "2", "3", "4", "5", "6")
		wantFits(t, b, 3, false, not...)
		wantFits(t, b, 3, false, strings.Repeat("1", 5000))
	}
}

func TestFitsRoute(t *testing.T) {
	fit := []string{"a b", "b a", "a c", "a b c", "a b a", "a b a b", "a b c a", "c b a b c", "a b a b a b a b", "a b c a b c a b"}
	not := []string{
		"", " ", "a", "b", "a ", " a", "a b ", " a b", "a  b", "a b  c", "a\tb", "a\nb", "a b\n", "a,b", "ab",
		"a b a b a b a b a", "a b c a b c a b c", "a b a b a b a b ", " a b a b a b a b",
		"a a", "a b b", "a a b", "a b c c", "a b a b a b a a", "a b a b b a b a",
		"a d", "d a", "a d b", "d d", "a jet", "jet glider", "a B", "A b", "a bb", "aa b", "a b-", "a \xff", "a b\x00", "a é", "a -",
	}
	wantFits(t, smallBase(), 4, true, fit...)
	wantFits(t, smallBase(), 4, false, not...)
	wantFits(t, smallBase(), 4, false, strings.Repeat("a b ", 5000)+"a", strings.Repeat(" ", 5000), strings.Repeat("a", 5000)+" b")
	wantFits(t, impl.PlanBase{}, 4, false, append(fit, not...)...)
	one := impl.PlanBase{Points: []impl.PlanPoint{{Name: "a"}}}
	wantFits(t, one, 4, false, append(fit, not...)...)

	var all []string
	for _, p := range fullBase().Points {
		all = append(all, p.Name)
	}
	for count := range len(all) + 1 {
		wantFits(t, fullBase(), 4, count >= 2 && count <= 8, strings.Join(all[:count], " "))
		wantFits(t, fullBase(), 4, count >= 2 && count <= 8, strings.Join(all[len(all)-count:], " "))
	}
}

func TestFitsState(t *testing.T) {
	for _, b := range []impl.PlanBase{smallBase(), fullBase(), {}} {
		wantFits(t, b, 5, true, "open", "closed")
		wantFits(t, b, 5, false, "", " ", "ope", "opens", "opened", "close", "closedd", "Open", "OPEN", "Closed", "open ", " open", "open closed", "open\n", "closed\n", "openclosed", "shut", "0", "1", "true", "state", "open\x00")
	}
}

func TestFitsNothingElse(t *testing.T) {
	values := []string{"", "jet", "5 6", "3", "a b", "open", "closed", "kind"}
	for _, what := range append([]int{-5, -2, -1, 0, 6, 7, 8, 256 + 1, 65536 + 2, 1<<32 + 5}, farNumbers...) {
		wantFits(t, smallBase(), what, false, values...)
	}
	// What fits one thing fits none of the others here.
	fits := map[int]string{1: "jet", 2: "5 6", 3: "3", 4: "a b", 5: "open"}
	for said, value := range fits {
		for what := range fits {
			wantFits(t, smallBase(), what, what == said, value)
		}
	}
}

// Names of points and kinds may look like numbers and states; each is what it is said to be.
func TestFitsNamesThatLookLikeOthers(t *testing.T) {
	b := impl.PlanBase{
		Kinds:  []impl.PlanKind{{Name: "007", Quick: 1, Slow: 1}, {Name: "5", Quick: 1, Slow: 1}, {Name: "open", Quick: 1, Slow: 1}},
		Points: []impl.PlanPoint{{Name: "00", X: 1}, {Name: "6", X: 2}, {Name: "closed", X: 3}},
	}
	wantFits(t, b, 1, true, "007", "5", "open")
	wantFits(t, b, 1, false, "7", "6", "closed")
	wantFits(t, b, 4, true, "00 6", "6 00 closed")
	wantFits(t, b, 4, false, "0 6", "5 6", "00 open")
	wantFits(t, b, 2, false, "00 6")
	wantFits(t, b, 3, false, "007", "open")
	wantFits(t, b, 5, false, "5")
}

func TestFitsOfBasesThatAreNotOk(t *testing.T) {
	fits := []string{"jet", "5 6", "3", "a b", "open"}
	for what, b := range brokenBases() {
		for i, value := range fits {
			if impl.PlanFits(b, i+1, value) {
				t.Errorf("%q fits with %s", value, what)
			}
			if impl.PlanChangeOk(b, impl.PlanChange{Flight: "kl", What: i + 1, Number: 1, Value: value}) {
				t.Errorf("a change with %q is ok with %s", value, what)
			}
		}
	}
}

var (
	timeForm  = regexp.MustCompile(`\A(0|[1-9][0-9]{0,6}) (0|[1-9][0-9]{0,6})\z`)
	routeForm = regexp.MustCompile(`\A[a-z0-9-]{1,8}( [a-z0-9-]{1,8}){1,7}\z`)
)

// fitsByForms says what the table of chapter 12 says, in another way: by forms of whole values.
func fitsByForms(b impl.PlanBase, what int, value string) bool {
	switch what {
	case 1:
		return slices.ContainsFunc(b.Kinds, func(k impl.PlanKind) bool { return k.Name == value })
	case 2:
		m := timeForm.FindStringSubmatch(value)
		if m == nil {
			return false
		}
		from, _ := strconv.Atoi(m[1])
		by, _ := strconv.Atoi(m[2])
		return from <= by && by <= 10000
	case 3:
		return len(value) == 1 && strings.Contains("123456", value)
	case 4:
		if !routeForm.MatchString(value) {
			return false
		}
		ahead := ""
		for _, name := range strings.Fields(value) {
			if name == ahead || !slices.ContainsFunc(b.Points, func(p impl.PlanPoint) bool { return p.Name == name }) {
				return false
			}
			ahead = name
		}
		return true
	case 5:
		return value == "open" || value == "closed"
	}
	return false
}

func TestFitsOfAllShortValues(t *testing.T) {
	b := impl.PlanBase{
		Kinds:  []impl.PlanKind{{Name: "1", Quick: 1, Slow: 1}, {Name: "a1", Quick: 1, Slow: 1}},
		Points: []impl.PlanPoint{{Name: "1"}, {Name: "a", X: 1}, {Name: "a0", X: 2}},
	}
	values := []string{""}
	count := [6]int{}
	for range 6 {
		var longer []string
		for _, value := range values {
			for _, c := range []byte("017a \n-\xc3") {
				longer = append(longer, value+string([]byte{c}))
			}
		}
		for _, value := range longer {
			for what := 1; what <= 5; what++ {
				want := fitsByForms(b, what, value)
				if want {
					count[what]++
				}
				if got := impl.PlanFits(b, what, value); got != want {
					t.Fatalf("PlanFits is %v of %d and %q", got, what, value)
				}
			}
		}
		values = longer
	}
	if count[1] != 2 || count[2] < 20 || count[3] != 1 || count[4] < 10 {
		t.Errorf("too few fit: %v", count)
	}
}

// drawFitting is a value that fits, if the base has what it needs, and is nearly one otherwise.
func drawFitting(r *rand.Rand, b impl.PlanBase, what int) string {
	switch what {
	case 1:
		if len(b.Kinds) > 0 {
			return b.Kinds[r.IntN(len(b.Kinds))].Name
		}
	case 2:
		by := r.IntN(10001)
		return fmt.Sprint(r.IntN(by+1), " ", by)
	case 3:
		return fmt.Sprint(1 + r.IntN(6))
	case 4:
		var names []string
		for count := 2 + r.IntN(7); len(names) < count && len(b.Points) > 1; {
			if name := b.Points[r.IntN(len(b.Points))].Name; len(names) == 0 || names[len(names)-1] != name {
				names = append(names, name)
			}
		}
		return strings.Join(names, " ")
	case 5:
		return []string{"open", "closed"}[r.IntN(2)]
	}
	return drawNames(r, 1)[0]
}

// bendText changes, takes out, puts in or doubles one byte of a text, at random.
func bendText(r *rand.Rand, text string) string {
	at := r.IntN(len(text) + 1)
	near := []string{"0", "0", "1", "9", " ", "a", "z", "-", "+", "\n", "\x00", "\xff"}[r.IntN(12)]
	if at == len(text) || r.IntN(4) == 0 {
		return text[:at] + near + text[at:]
	}
	switch r.IntN(3) {
	case 0:
		return text[:at] + text[at+1:]
	case 1:
		return text[:at+1] + text[at:]
	}
	return text[:at] + near + text[at+1:]
}

func TestFitsAtRandom(t *testing.T) {
	r := rand.New(rand.NewPCG(12, 1))
	count := map[bool]int{}
	for range 4000 {
		b := drawBase(r)
		for range 5 {
			what := 1 + r.IntN(5)
			value := drawFitting(r, b, what)
			for range 4 {
				want := fitsByForms(b, what, value)
				count[want]++
				if got := impl.PlanFits(b, what, value); got != want {
					t.Fatalf("PlanFits is %v of %d, %q and %+v", got, what, value, b)
				}
				value = bendText(r, value)
			}
		}
	}
	if count[true] < 5000 || count[false] < 5000 {
		t.Errorf("too few of one kind: %v", count)
	}
}

// okChanges are changes that are ok with smallBase, one of each thing.
func okChanges() []impl.PlanChange {
	return []impl.PlanChange{
		{Flight: "kl1", What: 1, Number: 1, Value: "jet"},
		{Flight: "k", What: 2, Number: 2, Value: "5 6"},
		{Flight: "abcdefgh", What: 3, Number: 30, Value: "6"},
		{Flight: "-", What: 4, Number: 999999, Value: "a b a"},
		{Flight: "007", What: 5, Number: 1000000, Value: "closed"},
	}
}

var okForms = []string{
	"set kl1 kind 1 jet",
	"set k time 2 5 6",
	"set abcdefgh level 30 6",
	"set - route 999999 a b a",
	"set 007 state 1000000 closed",
}

// numbersAround are numbers of changes at and past each bound, and far from them.
var numbersAround = append([]int{-1000000, -2, -1, 0, 1, 2, 9, 10, 11, 100, 999999, 1000000, 1000001, 1000002, 9999999, 10000000, math.MaxUint32 + 2}, farNumbers...)

func TestChangeOk(t *testing.T) {
	b := smallBase()
	for _, c := range okChanges() {
		wantChange := func(c impl.PlanChange, want bool) {
			t.Helper()
			if got := impl.PlanChangeOk(b, c); got != want {
				t.Errorf("PlanChangeOk is %v of %+v", got, c)
			}
		}
		wantChange(c, true)
		for _, number := range numbersAround {
			bent := c
			bent.Number = number
			wantChange(bent, number >= 1 && number <= 1000000)
		}
		for i, name := range append(slices.Clone(someNames), noNames...) {
			bent := c
			bent.Flight = name
			wantChange(bent, i < len(someNames))
		}
		for _, what := range append([]int{-1, 0, 1, 2, 3, 4, 5, 6}, farNumbers...) {
			bent := c
			bent.What = what
			wantChange(bent, what == c.What)
		}
		for _, value := range []string{"", " ", c.Value + " ", " " + c.Value, c.Value + "\n", "\n" + c.Value, c.Value + c.Value, c.Value + "x", "x", "0"} {
			bent := c
			bent.Value = value
			wantChange(bent, false)
		}
	}
	if impl.PlanChangeOk(b, impl.PlanChange{}) || impl.PlanChangeOk(impl.PlanBase{}, impl.PlanChange{}) {
		t.Error("nothing is no change that is ok")
	}
}

// wantForm asks for the form of a change, and, if there is one, whether it is read as the change.
func wantForm(t *testing.T, c impl.PlanChange, want string) {
	t.Helper()
	got := impl.PlanForm(c)
	if got != want {
		t.Errorf("PlanForm is %.100q, not %.100q, of %.200q", got, want, fmt.Sprintf("%+v", c))
	}
	if want == "" {
		return
	}
	if d, ok := impl.PlanRead(want); !ok || d != c {
		t.Errorf("PlanRead is %v, %v of %.100q", d, ok, want)
	}
}

func wantNoForm(t *testing.T, texts ...string) {
	t.Helper()
	for _, text := range texts {
		if c, ok := impl.PlanRead(text); ok || c != (impl.PlanChange{}) {
			t.Errorf("PlanRead is %+v, %v of %.100q", c, ok, text)
		}
	}
}

func TestFormOfEachThing(t *testing.T) {
	for i, c := range okChanges() {
		wantForm(t, c, okForms[i])
	}
}

func TestFormAtItsBounds(t *testing.T) {
	words := []string{"kind", "time", "level", "route", "state"}
	for i, word := range words {
		for _, number := range numbersAround {
			want := ""
			if number >= 1 && number <= 1000000 {
				want = fmt.Sprintf("set kl %s %d v", word, number)
			}
			wantForm(t, impl.PlanChange{Flight: "kl", What: i + 1, Number: number, Value: "v"}, want)
		}
		for _, name := range someNames {
			wantForm(t, impl.PlanChange{Flight: name, What: i + 1, Number: 12, Value: "v"}, "set "+name+" "+word+" 12 v")
		}
		for _, name := range noNames {
			wantForm(t, impl.PlanChange{Flight: name, What: i + 1, Number: 12, Value: "v"}, "")
		}
	}
	for _, what := range append([]int{-5, -1, 0, 6, 7, 256 + 1, 1<<32 + 1}, farNumbers...) {
		wantForm(t, impl.PlanChange{Flight: "kl", What: what, Number: 12, Value: "v"}, "")
	}
	wantForm(t, impl.PlanChange{}, "")
}

// A form needs a value that is not empty and has no newline; nothing else is asked of it.
func TestFormOfAnyValue(t *testing.T) {
	values := []string{" ", "  ", "v ", " v", "  v  ", "a  b", "jets", "6 5", "05 06", "0", "7", "a", "a d", "Open", "\t", "\r", "v\r", "\x00", "\xff", "\xc3", "é", "日本", "\u0085", "\u2028", "#", "set kl kind 1 v", "v\v", strings.Repeat("x", 20000), strings.Repeat(" ", 20000)}
	broken := []string{"", "\n", "v\n", "\nv", "v\nv", "v\r\n", " \n ", "\xc3\n", "\xff\n\xff", strings.Repeat("x", 20000) + "\n"}
	for what, word := range []string{"kind", "time", "level", "route", "state"} {
		for _, value := range values {
			wantForm(t, impl.PlanChange{Flight: "kl", What: what + 1, Number: 7, Value: value}, "set kl "+word+" 7 "+value)
			if impl.PlanChangeOk(smallBase(), impl.PlanChange{Flight: "kl", What: what + 1, Number: 7, Value: value}) {
				t.Errorf("%.100q is ok as a %s", value, word)
			}
		}
		for _, value := range broken {
			wantForm(t, impl.PlanChange{Flight: "kl", What: what + 1, Number: 7, Value: value}, "")
			wantNoForm(t, "set kl "+word+" 7 "+value)
		}
	}
}

func TestReadOfTextsThatAreNoForms(t *testing.T) {
	wantNoForm(t, "", " ", "    ", "     ", "\n", "set", "set ", "set kl", "set kl ", "set kl kind", "set kl kind ", "set kl kind 7", "set kl kind 7 ",
		"set  kl kind 7 v", "set kl  kind 7 v", "set kl kind  7 v", " set kl kind 7 v", "  set kl kind 7 v", "setkl kind 7 v", "set klkind 7 v", "set kl kind7 v", "set kl kind 7v",
		"set kl kind 7 v\n", "\nset kl kind 7 v", "set\nkl kind 7 v", "set kl\nkind 7 v", "set kl kind\n7 v", "set kl kind 7\nv", "set kl kind 7 \n", "set kl kind 7 v\nset kl kind 8 v",
		"set\tkl kind 7 v", "set kl kind 7\tv", "set kl\u00a0kind 7 v",
		"Set kl kind 7 v", "SET kl kind 7 v", "sets kl kind 7 v", "se kl kind 7 v", "let kl kind 7 v", "kl kind 7 v", "\xffset kl kind 7 v",
		"set kl Kind 7 v", "set kl kinds 7 v", "set kl kin 7 v", "set kl 1 7 v", "set kl road 7 v", "set kl  7 v", "set kl kind kind 7 v", "set kind kl 7 v", "set kl 7 kind v",
		"set kl kind 0 v", "set kl kind 00 v", "set kl kind 07 v", "set kl kind 0000007 v", "set kl kind 01000000 v", "set kl kind +7 v", "set kl kind -7 v", "set kl kind -0 v",
		"set kl kind 1000001 v", "set kl kind 9999999 v", "set kl kind 10000000 v", "set kl kind 18446744073709551617 v", "set kl kind 4294967303 v", "set kl kind 7. v", "set kl kind 7_0 v", "set kl kind 0x7 v", "set kl kind 1e3 v", "set kl kind v 7", "set kl kind ٧ v", "set kl kind \xb7 v",
		strings.Repeat(" ", 5000), strings.Repeat("set ", 5000), "set kl kind "+strings.Repeat("7", 5000)+" v")
	for _, name := range noNames {
		wantNoForm(t, "set "+name+" kind 7 v")
	}
}

// changeForm says what a form is, in another way.
var changeForm = regexp.MustCompile(`\Aset ([a-z0-9-]{1,8}) (kind|time|level|route|state) ([1-9][0-9]{0,5}|1000000) ([^\n]+)\z`)

// checkRead asks whether a text is read as its form says, and written again as it is.
func checkRead(t *testing.T, text string) bool {
	t.Helper()
	c, ok := impl.PlanRead(text)
	m := changeForm.FindStringSubmatch(text)
	if m == nil {
		if ok || c != (impl.PlanChange{}) {
			t.Fatalf("PlanRead is %+v, %v of %q", c, ok, text)
		}
		return false
	}
	number, _ := strconv.Atoi(m[3])
	what := 1 + slices.Index([]string{"kind", "time", "level", "route", "state"}, m[2])
	if want := (impl.PlanChange{Flight: m[1], What: what, Number: number, Value: m[4]}); !ok || c != want {
		t.Fatalf("PlanRead is %+v, %v, not %+v, of %q", c, ok, want, text)
	}
	if again := impl.PlanForm(c); again != text {
		t.Fatalf("PlanForm is %q, not %q", again, text)
	}
	return true
}

// drawValue is a value of any bytes, or one that fits, or nearly.
func drawValue(r *rand.Rand, b impl.PlanBase, what int) string {
	switch r.IntN(3) {
	case 0:
		return drawFitting(r, b, what)
	case 1:
		return bendText(r, drawFitting(r, b, what))
	}
	value := make([]byte, r.IntN(12))
	for i := range value {
		value[i] = byte(r.IntN(256))
		if r.IntN(3) == 0 {
			value[i] = ' '
		}
	}
	return string(value)
}

// drawChange is a change made at random, which most often has a form.
func drawChange(r *rand.Rand, b impl.PlanBase) impl.PlanChange {
	c := impl.PlanChange{Flight: drawNames(r, 1)[0], What: 1 + r.IntN(5), Number: 1 + r.IntN([]int{10, 1000, 1000000}[r.IntN(3)])}
	c.Value = drawValue(r, b, c.What)
	switch r.IntN(20) {
	case 0:
		c.Flight = bendText(r, c.Flight)
	case 1:
		c.What = r.IntN(9) - 1
	case 2:
		c.Number = numbersAround[r.IntN(len(numbersAround))]
	}
	return c
}

// Promise 14: PlanRead of PlanForm is the change, for every one that has a form; what is ok has one.
func TestReadOfForm(t *testing.T) {
	r := rand.New(rand.NewPCG(14, 1))
	count := map[string]int{}
	for range 60000 {
		b := drawBase(r)
		c := drawChange(r, b)
		formed := nameForm.MatchString(c.Flight) && c.What >= 1 && c.What <= 5 && c.Number >= 1 && c.Number <= 1000000 && c.Value != "" && !strings.Contains(c.Value, "\n")
		form := impl.PlanForm(c)
		if (form != "") != formed {
			t.Fatalf("PlanForm is %q of %+v", form, c)
		}
		d, ok := impl.PlanRead(form)
		if ok != formed || ok && d != c {
			t.Fatalf("PlanRead is %+v, %v of %q, the form of %+v", d, ok, form, c)
		}
		fine := formed && fitsByForms(b, c.What, c.Value)
		if got := impl.PlanChangeOk(b, c); got != fine {
			t.Fatalf("PlanChangeOk is %v of %+v and %+v", got, c, b)
		}
		switch {
		case fine:
			count["ok"]++
		case formed:
			count["with a form"]++
		default:
			count["without"]++
		}
	}
	if count["ok"] < 5000 || count["with a form"] < 5000 || count["without"] < 3000 {
		t.Errorf("too few of one kind: %v", count)
	}
}

// Promise 14: PlanRead reads nothing else. All texts that are one byte away from a form.
func TestReadOneByteAway(t *testing.T) {
	forms := append(slices.Clone(okForms), "set kl route 12 a  b", "set a kind 9  ", "set abcdefg- time 100000 0")
	count := map[bool]int{}
	for _, form := range forms {
		for at := range len(form) + 1 {
			for c := range 256 {
				one := string([]byte{byte(c)})
				count[checkRead(t, form[:at]+one+form[at:])]++
				if at < len(form) {
					count[checkRead(t, form[:at]+one+form[at+1:])]++
				}
			}
			if at < len(form) {
				count[checkRead(t, form[:at]+form[at+1:])]++
			}
		}
		for cut := range form {
			checkRead(t, form[:cut])
			checkRead(t, form[cut:])
		}
	}
	if count[true] < 5000 || count[false] < 5000 {
		t.Errorf("too few of one kind: %v", count)
	}
}

// Promise 14: every text that PlanRead reads is PlanForm of what it gave.
func TestReadAtRandom(t *testing.T) {
	r := rand.New(rand.NewPCG(14, 2))
	pieces := []string{"set", "set ", " ", " ", " ", "kl", "a-0", "abcdefgh", "abcdefghi", "kind", "time", "level", "route", "state", "12", "1", "1000000", "1000001", "0", "01", "+1", "v", "\n", "\xff", ""}
	count := map[bool]int{}
	for range 30000 {
		text := impl.PlanForm(drawChange(r, smallBase()))
		for range r.IntN(4) {
			text = bendText(r, text)
		}
		count[checkRead(t, text)]++
		var words []string
		for range 3 + r.IntN(4) {
			words = append(words, pieces[r.IntN(len(pieces))])
		}
		count[checkRead(t, strings.Join(words, " "))]++
		seemly := []string{"set", pieces[5+r.IntN(4)], pieces[9+r.IntN(5)], pieces[14+r.IntN(7)], pieces[14+r.IntN(11)]}
		count[checkRead(t, strings.Join(seemly, " "))]++
	}
	if count[true] < 5000 || count[false] < 5000 {
		t.Errorf("too few of one kind: %v", count)
	}
}
