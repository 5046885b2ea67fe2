package tests

import (
	"fmt"
	"math"
	"math/rand/v2"
	"reflect"
	"regexp"
	"testing"

	"loop.example/lapwing/impl"
)

// skyCase is a change of a sky, and whether it is valid with it.
type skyCase struct {
	what   string
	valid  bool
	change func(s *impl.Sky)
}

func wantSkies(t *testing.T, base func() impl.Sky, cases []skyCase) {
	t.Helper()
	if !impl.SkyValid(base()) {
		t.Fatalf("not valid as it is: %+v", base())
	}
	for _, c := range cases {
		s := base()
		c.change(&s)
		if got := impl.SkyValid(s); got != c.valid {
			t.Errorf("%s: SkyValid is %v of %+v", c.what, got, s)
		}
	}
}

func TestSkyOfNothing(t *testing.T) {
	if impl.SkyValid(impl.Sky{}) {
		t.Error("nothing is no valid sky")
	}
}

func TestSkySize(t *testing.T) {
	sizes := []int{math.MinInt, -16, -1, 0, 1, 2, 6, 7, 15, 16, 17, math.MaxInt}
	for _, n := range sizes {
		if got, want := impl.SkyValid(coverSky(n, 1, 1)), n >= 1 && n <= 16; got != want {
			t.Errorf("Width %d: %v", n, got)
		}
		if got, want := impl.SkyValid(coverSky(1, n, 1)), n >= 1 && n <= 16; got != want {
			t.Errorf("Height %d: %v", n, got)
		}
		if got, want := impl.SkyValid(coverSky(1, 1, n)), n >= 1 && n <= 6; got != want {
			t.Errorf("Levels %d: %v", n, got)
		}
	}
	// Without any place there is no hole: only the size is wrong here.
	for _, s := range []impl.Sky{{Width: 0, Height: 1, Levels: 1}, {Width: 1, Height: 0, Levels: 1}, {Width: 1, Height: 1, Levels: 0}, {Width: -1, Height: -1, Levels: 1}} {
		if impl.SkyValid(s) {
			t.Errorf("valid: %+v", s)
		}
	}
	// Products that wrap round to a count of places that is right.
	for _, s := range []impl.Sky{{Width: 1 << 32, Height: 1 << 32, Levels: 1}, {Width: math.MinInt, Height: 2, Levels: 1}} {
		if impl.SkyValid(s) {
			t.Errorf("valid: %+v", s)
		}
	}
}

func TestSkyAtAllLimits(t *testing.T) {
	wantSkies(t, fullSky, []skyCase{
		{"nothing changed", true, func(s *impl.Sky) {}},
		{"one point too many", false, func(s *impl.Sky) {
			s.Points = append(s.Points, impl.SkyPoint{Name: "q"})
		}},
		{"one airway too many", false, func(s *impl.Sky) {
			s.Airways = append(s.Airways, impl.SkyAirway{Name: "b", Points: []string{"point-00", "point-01"}})
		}},
		{"a point of an airway too many", false, func(s *impl.Sky) {
			s.Airways[0].Points = append(s.Airways[0].Points, "point-08")
		}},
		{"the same point without one too many", true, func(s *impl.Sky) {
			s.Airways[0].Points = append(s.Airways[0].Points[:7], "point-08")
		}},
		{"one sector too many", false, func(s *impl.Sky) {
			last := s.Sectors[5].Blocks
			s.Sectors[5].Blocks = last[:3]
			s.Sectors = append(s.Sectors, impl.SkySector{Name: "m", Blocks: last[3:]})
		}},
		{"one block too many", false, func(s *impl.Sky) {
			b := &s.Sectors[2].Blocks[3]
			rest := *b
			b.X1, rest.X0 = 10, 11
			s.Sectors[2].Blocks = append(s.Sectors[2].Blocks, rest)
		}},
		{"one runway too many", false, func(s *impl.Sky) {
			s.Runways = append(s.Runways, impl.SkyRunway{Name: "s", X: 1, Y: 1, Turn: 3})
		}},
		{"that runway without one too many", true, func(s *impl.Sky) {
			s.Runways[3] = impl.SkyRunway{Name: "s", X: 1, Y: 1, Turn: 3}
		}},
		{"none but sectors", true, func(s *impl.Sky) {
			s.Points, s.Airways, s.Runways = nil, []impl.SkyAirway{}, nil
		}},
	})
}

func TestSkyNames(t *testing.T) {
	good := []string{"z", "zz", "zaz09-", "zabcdefg", "z-------", "z0", "z-"}
	bad := []string{"", "zabcdefgh", "Z", "zA", "z ", " z", "z_", "z.", "z#", "z\n", "z\x00", "z\xff", "zé", "z{", "z`", "z/", "z:", "z,"}
	naming := map[string]func(s *impl.Sky, name string){
		"point": func(s *impl.Sky, name string) {
			s.Points, s.Airways = []impl.SkyPoint{{Name: name}}, nil
		},
		"airway": func(s *impl.Sky, name string) {
			s.Airways = []impl.SkyAirway{{Name: name, Points: []string{"a", "b"}}}
		},
		"sector": func(s *impl.Sky, name string) {
			s.Sectors = coverSky(s.Width, s.Height, s.Levels).Sectors
			s.Sectors[0].Name = name
		},
		"runway": func(s *impl.Sky, name string) {
			s.Runways = []impl.SkyRunway{{Name: name, X: 1, Y: 1, Turn: 1}}
		},
	}
	for kind, give := range naming {
		for i, name := range append(good, bad...) {
			s := smallSky()
			give(&s, name)
			if got, want := impl.SkyValid(s), i < len(good); got != want {
				t.Errorf("a %s with the name %q: %v", kind, name, got)
			}
		}
	}
}

func TestSkyNamesAscend(t *testing.T) {
	naming := map[string]func(s *impl.Sky, a, b string){
		"points": func(s *impl.Sky, a, b string) {
			s.Points = []impl.SkyPoint{{Name: a}, {Name: b, X: 1}}
		},
		"airways": func(s *impl.Sky, a, b string) {
			s.Points = []impl.SkyPoint{{Name: "p"}, {Name: "q", X: 1}}
			s.Airways = []impl.SkyAirway{{Name: a, Points: []string{"p", "q"}}, {Name: b, Points: []string{"p", "q"}}}
		},
		"sectors": func(s *impl.Sky, a, b string) {
			s.Sectors = []impl.SkySector{{Name: a, Blocks: []impl.SkyBlock{{X1: 2, Y1: 2, Low: 1, High: 1}}}, {Name: b, Blocks: []impl.SkyBlock{{X1: 2, Y1: 2, Low: 2, High: 2}}}}
		},
		"runways": func(s *impl.Sky, a, b string) {
			s.Runways = []impl.SkyRunway{{Name: a, X: 1, Y: 1, Turn: 1}, {Name: b, X: 2, Y: 2, Turn: 1}}
		},
	}
	for kind, give := range naming {
		for _, c := range []struct {
			a, b   string
			ascend bool
		}{
			{"a", "b", true}, {"b", "a", false}, {"a", "a", false},
			{"a", "aa", true}, {"aa", "a", false}, {"a", "a-", true}, {"ab", "b", true}, {"b", "ab", false},
			{"-", "0", true}, {"0", "-", false}, {"9", "a", true}, {"a", "9", false},
		} {
			s := coverSky(3, 3, 2)
			give(&s, c.a, c.b)
			if got := impl.SkyValid(s); got != c.ascend {
				t.Errorf("%s %q, %q: %v", kind, c.a, c.b, got)
			}
		}
	}
}

func TestSkyPoints(t *testing.T) {
	wantSkies(t, smallSky, []skyCase{
		{"the last cell", true, func(s *impl.Sky) { s.Points[2] = impl.SkyPoint{Name: "c", X: 4, Y: 0} }},
		{"X one past", false, func(s *impl.Sky) { s.Points[2] = impl.SkyPoint{Name: "c", X: 5, Y: 0} }},
		{"the topmost cell", true, func(s *impl.Sky) { s.Points[2] = impl.SkyPoint{Name: "c", X: 0, Y: 3} }},
		{"Y one past", false, func(s *impl.Sky) { s.Points[2] = impl.SkyPoint{Name: "c", X: 0, Y: 4} }},
		{"X below", false, func(s *impl.Sky) { s.Points[0].X = -1 }},
		{"Y below", false, func(s *impl.Sky) { s.Points[0].Y = -1 }},
		{"two in one cell", false, func(s *impl.Sky) { s.Points[2].X, s.Points[2].Y = 0, 0 }},
		{"two next to each other", true, func(s *impl.Sky) { s.Points[2].X, s.Points[2].Y = 0, 1 }},
		{"in the cell of a runway", true, func(s *impl.Sky) { s.Points[2].X, s.Points[2].Y = 1, 1 }},
	})
}

func TestSkyAirways(t *testing.T) {
	chain := func(points ...string) func(s *impl.Sky) {
		return func(s *impl.Sky) { s.Airways[1].Points = points }
	}
	wantSkies(t, smallSky, []skyCase{
		{"no point", false, chain()},
		{"one point", false, chain("a")},
		{"two points", true, chain("c", "a")},
		{"a point that is none", false, chain("a", "d")},
		{"a point without a name", false, chain("a", "")},
		{"the name of something else", false, chain("a", "r1")},
		{"one twice in a row", false, chain("a", "a")},
		{"one twice, not in a row", false, chain("a", "b", "a")},
		{"the same chain as another airway", true, chain("b", "a")},
	})
}

func TestSkyBlocks(t *testing.T) {
	set := func(b impl.SkyBlock) func(s *impl.Sky) {
		return func(s *impl.Sky) {
			*s = coverSky(3, 3, 2)
			s.Sectors[0].Blocks[0] = b
		}
	}
	wantSkies(t, smallSky, []skyCase{
		{"all places", true, set(impl.SkyBlock{X1: 2, Y1: 2, Low: 1, High: 2})},
		{"X0 below", false, set(impl.SkyBlock{X0: -1, X1: 2, Y1: 2, Low: 1, High: 2})},
		{"Y0 below", false, set(impl.SkyBlock{Y0: -1, X1: 2, Y1: 2, Low: 1, High: 2})},
		{"Low below", false, set(impl.SkyBlock{X1: 2, Y1: 2, Low: 0, High: 2})},
		{"X1 past", false, set(impl.SkyBlock{X1: 3, Y1: 2, Low: 1, High: 2})},
		{"Y1 past", false, set(impl.SkyBlock{X1: 2, Y1: 3, Low: 1, High: 2})},
		{"High past", false, set(impl.SkyBlock{X1: 2, Y1: 2, Low: 1, High: 3})},
		{"all numbers there are", false, set(impl.SkyBlock{X0: math.MinInt, Y0: math.MinInt, X1: math.MaxInt, Y1: math.MaxInt, Low: math.MinInt, High: math.MaxInt})},
		{"no sectors", false, func(s *impl.Sky) { s.Sectors = nil }},
		{"a sector with no blocks", false, func(s *impl.Sky) { s.Sectors = append(s.Sectors, impl.SkySector{Name: "z"}) }},
	})
	// A block from behind its end has nothing: beside it all places are in one.
	for _, b := range []impl.SkyBlock{{X0: 2, X1: 1, Y1: 2, Low: 1, High: 2}, {X1: 2, Y0: 2, Y1: 1, Low: 1, High: 2}, {X1: 2, Y1: 2, Low: 2, High: 1}} {
		s := coverSky(3, 3, 2)
		s.Sectors = append(s.Sectors, impl.SkySector{Name: "b", Blocks: []impl.SkyBlock{b}})
		if impl.SkyValid(s) {
			t.Errorf("valid with %+v", b)
		}
	}
}

func TestSkyBlocksAscend(t *testing.T) {
	for _, c := range []struct {
		by            string
		first, second impl.SkyBlock
	}{
		{"X0", impl.SkyBlock{X0: 0, X1: 0, Y1: 1, Low: 1, High: 2}, impl.SkyBlock{X0: 1, X1: 1, Y1: 1, Low: 1, High: 2}},
		{"Y0", impl.SkyBlock{X1: 1, Y0: 0, Y1: 0, Low: 1, High: 2}, impl.SkyBlock{X1: 1, Y0: 1, Y1: 1, Low: 1, High: 2}},
		{"Low", impl.SkyBlock{X1: 1, Y1: 1, Low: 1, High: 1}, impl.SkyBlock{X1: 1, Y1: 1, Low: 2, High: 2}},
	} {
		s := coverSky(2, 2, 2)
		s.Sectors[0].Blocks = []impl.SkyBlock{c.first, c.second}
		if !impl.SkyValid(s) {
			t.Errorf("by %s: not valid", c.by)
		}
		s.Sectors[0].Blocks = []impl.SkyBlock{c.second, c.first}
		if impl.SkyValid(s) {
			t.Errorf("by %s: valid, though it descends", c.by)
		}
	}
	// X0 goes ahead of Y0, and Y0 ahead of Low; sector by sector blocks need not ascend.
	split := []impl.SkyBlock{{X0: 0, Y0: 1, X1: 0, Y1: 1, Low: 1, High: 1}, {X0: 1, Y0: 0, X1: 1, Y1: 0, Low: 2, High: 2}, {X0: 1, Y0: 1, X1: 1, Y1: 1, Low: 1, High: 1}}
	rest := []impl.SkyBlock{{X0: 0, Y0: 0, X1: 0, Y1: 0, Low: 1, High: 2}, {X0: 0, Y0: 1, X1: 0, Y1: 1, Low: 2, High: 2}, {X0: 1, Y0: 0, X1: 1, Y1: 0, Low: 1, High: 1}, {X0: 1, Y0: 1, X1: 1, Y1: 1, Low: 2, High: 2}}
	s := coverSky(2, 2, 2)
	s.Sectors = []impl.SkySector{{Name: "a", Blocks: split}, {Name: "b", Blocks: rest}}
	if !impl.SkyValid(s) {
		t.Error("by X0 ahead of Y0 ahead of Low: not valid")
	}
	split[0], split[1] = split[1], split[0]
	if impl.SkyValid(s) {
		t.Error("by Y0 ahead of X0: valid")
	}
}

func TestSkyBlocksShareNoPlaceAndHaveAll(t *testing.T) {
	wantSkies(t, smallSky, []skyCase{
		{"in common with another sector, along X", false, func(s *impl.Sky) { s.Sectors[0].Blocks[0].X1 = 2 }},
		{"in common within a sector, along levels", false, func(s *impl.Sky) { s.Sectors[0].Blocks[0].High = 3 }},
		{"in common within a sector, along Y", false, func(s *impl.Sky) { s.Sectors[1].Blocks[0].Y1 = 2 }},
		{"a hole along X", false, func(s *impl.Sky) { s.Sectors[0].Blocks[0].X1 = 0 }},
		{"a hole along Y", false, func(s *impl.Sky) { s.Sectors[1].Blocks[1].Y0 = 3 }},
		{"a hole on a level", false, func(s *impl.Sky) { s.Sectors[0].Blocks = s.Sectors[0].Blocks[:1] }},
		{"a sector twice", false, func(s *impl.Sky) {
			s.Sectors = append(s.Sectors, impl.SkySector{Name: "z", Blocks: s.Sectors[1].Blocks})
		}},
	})
	// As many places as there are, one of them twice and one of them in no block.
	s := coverSky(3, 1, 1)
	s.Sectors = []impl.SkySector{{Name: "a", Blocks: []impl.SkyBlock{{X1: 1, Low: 1, High: 1}}}, {Name: "b", Blocks: []impl.SkyBlock{{X0: 1, X1: 1, Low: 1, High: 1}}}}
	if impl.SkyValid(s) {
		t.Error("a place twice for one that is in no block")
	}
	s.Sectors[1].Blocks[0] = impl.SkyBlock{X0: 2, X1: 2, Low: 1, High: 1}
	if !impl.SkyValid(s) {
		t.Error("not valid, each place being in one block")
	}
}

func TestSkyEachPlaceCounts(t *testing.T) {
	for place := range 12 {
		x, y, level := place%3, place/3%2, place/6+1
		s := coverSky(3, 2, 2)
		s.Sectors = append(s.Sectors, impl.SkySector{Name: "b", Blocks: []impl.SkyBlock{{X0: x, X1: x, Y0: y, Y1: y, Low: level, High: level}}})
		if impl.SkyValid(s) {
			t.Errorf("%d,%d,%d is in two blocks", x, y, level)
		}
	}
}

func TestSkyRunways(t *testing.T) {
	for cell := range 9 {
		for turn := 1; turn <= 8; turn++ {
			s := coverSky(3, 3, 1)
			x, y := cell%3, cell/3
			s.Runways = []impl.SkyRunway{{Name: "r", X: x, Y: y, Turn: turn}}
			if got, want := impl.SkyValid(s), inSky(s, x-turnX[turn], y-turnY[turn]); got != want {
				t.Errorf("a runway in %d,%d with turn %d: %v", x, y, turn, got)
			}
		}
	}
	set := func(x, y, turn int) func(s *impl.Sky) {
		return func(s *impl.Sky) { s.Runways[1] = impl.SkyRunway{Name: "r2", X: x, Y: y, Turn: turn} }
	}
	wantSkies(t, smallSky, []skyCase{
		{"turn 0", false, set(2, 2, 0)},
		{"turn 1", true, set(2, 2, 1)},
		{"turn 8", true, set(2, 2, 8)},
		{"turn 9", false, set(2, 2, 9)},
		{"turn -1", false, set(2, 2, -1)},
		{"two in one cell", false, set(1, 1, 5)},
		{"in a point's cell", true, set(2, 1, 5)},
		{"the last cell", true, set(4, 3, 1)},
		{"X one past, with a cell ahead", false, set(5, 2, 3)},
		{"Y one past, with a cell ahead", false, set(2, 4, 1)},
		{"X below, with a cell ahead", false, set(-1, 2, 7)},
		{"Y below, with a cell ahead", false, set(2, -1, 5)},
		{"none ahead to the east", false, set(4, 2, 7)},
		{"none ahead to the north", false, set(2, 3, 5)},
	})
	for turn := 1; turn <= 8; turn++ {
		s := coverSky(1, 1, 1)
		s.Runways = []impl.SkyRunway{{Name: "r", Turn: turn}}
		if impl.SkyValid(s) {
			t.Errorf("a sky of one cell has a runway with turn %d", turn)
		}
	}
}

// eachInt calls a function with each number of a sky, by what it is.
func eachInt(v reflect.Value, path string, use func(path string, v reflect.Value)) {
	switch v.Kind() {
	case reflect.Int:
		use(path, v)
	case reflect.Struct:
		for i := range v.NumField() {
			eachInt(v.Field(i), path+"."+v.Type().Field(i).Name, use)
		}
	case reflect.Slice:
		for i := range v.Len() {
			eachInt(v.Index(i), fmt.Sprintf("%s[%d]", path, i), use)
		}
	}
}

func TestSkyNumbersAtTheEndsOfInt(t *testing.T) {
	ends := []int{math.MinInt, math.MinInt + 1, math.MinInt32, -1, 17, math.MaxInt32, math.MaxInt32 + 1, math.MaxInt - 1, math.MaxInt}
	s := smallSky()
	eachInt(reflect.ValueOf(&s).Elem(), "", func(path string, v reflect.Value) {
		was := v.Int()
		for _, end := range ends {
			v.SetInt(int64(end))
			if impl.SkyValid(s) {
				t.Errorf("valid with %s being %d", path, end)
			}
		}
		v.SetInt(was)
	})
	if !impl.SkyValid(s) {
		t.Error("not valid, all being as it was")
	}
}

func TestSkyLongLists(t *testing.T) {
	const many = 100000
	wantSkies(t, smallSky, []skyCase{
		{"points", false, func(s *impl.Sky) { s.Points = make([]impl.SkyPoint, many) }},
		{"airways", false, func(s *impl.Sky) { s.Airways = make([]impl.SkyAirway, many) }},
		{"a chain", false, func(s *impl.Sky) { s.Airways[0].Points = make([]string, many) }},
		{"sectors", false, func(s *impl.Sky) { s.Sectors = make([]impl.SkySector, many) }},
		{"blocks", false, func(s *impl.Sky) { s.Sectors[0].Blocks = make([]impl.SkyBlock, many) }},
		{"runways", false, func(s *impl.Sky) { s.Runways = make([]impl.SkyRunway, many) }},
	})
}

// fenceSky gives each list of a sky room behind its end, with something in it.
func fenceSky(s impl.Sky) impl.Sky {
	s.Points = append(s.Points, impl.SkyPoint{Name: "fence", X: 1})[:len(s.Points)]
	for i, a := range s.Airways {
		s.Airways[i].Points = append(a.Points, "fence", "fence")[:len(a.Points)]
	}
	s.Airways = append(s.Airways, impl.SkyAirway{Name: "fence"})[:len(s.Airways)]
	for i, n := range s.Sectors {
		s.Sectors[i].Blocks = append(n.Blocks, impl.SkyBlock{X0: 7})[:len(n.Blocks)]
	}
	s.Sectors = append(s.Sectors, impl.SkySector{Name: "fence"})[:len(s.Sectors)]
	s.Runways = append(s.Runways, impl.SkyRunway{Name: "fence", Turn: 4})[:len(s.Runways)]
	return s
}

// wholeSky is a sky with its lists up to the ends of their room.
func wholeSky(s impl.Sky) impl.Sky {
	s = cloneSky(s)
	s.Points = s.Points[:cap(s.Points)]
	for i, a := range s.Airways {
		s.Airways[i].Points = a.Points[:cap(a.Points)]
	}
	s.Airways = s.Airways[:cap(s.Airways)]
	for i, n := range s.Sectors {
		s.Sectors[i].Blocks = n.Blocks[:cap(n.Blocks)]
	}
	s.Sectors = s.Sectors[:cap(s.Sectors)]
	s.Runways = s.Runways[:cap(s.Runways)]
	return s
}

func TestSkyValidWritesNothing(t *testing.T) {
	upsideDown := smallSky()
	upsideDown.Sectors[0], upsideDown.Sectors[1] = upsideDown.Sectors[1], upsideDown.Sectors[0]
	for i, s := range []impl.Sky{smallSky(), fullSky(), upsideDown} {
		s = fenceSky(s)
		before := wholeSky(s)
		first := impl.SkyValid(s)
		if !reflect.DeepEqual(wholeSky(s), before) {
			t.Errorf("sky %d is written into", i)
		}
		if second := impl.SkyValid(s); second != first || first != (i < 2) {
			t.Errorf("sky %d: %v, then %v", i, first, second)
		}
	}
}

var nameForm = regexp.MustCompile(`^[a-z0-9-]{1,8}$`)

func namesAscend(names []string) bool {
	for i, name := range names {
		if !nameForm.MatchString(name) || i > 0 && names[i-1] >= name {
			return false
		}
	}
	return true
}

// validByPlaces says what chapter 2 says, in another way: place by place, and list by list.
func validByPlaces(s impl.Sky) bool {
	if s.Width < 1 || s.Width > 16 || s.Height < 1 || s.Height > 16 || s.Levels < 1 || s.Levels > 6 ||
		len(s.Points) > 16 || len(s.Airways) > 8 || len(s.Sectors) > 6 || len(s.Runways) > 4 {
		return false
	}
	var points, airways, sectors, runways []string
	for i, p := range s.Points {
		points = append(points, p.Name)
		for _, q := range s.Points[:i] {
			if p.X == q.X && p.Y == q.Y {
				return false
			}
		}
		if !inSky(s, p.X, p.Y) {
			return false
		}
	}
	for _, a := range s.Airways {
		airways = append(airways, a.Name)
		if len(a.Points) < 2 || len(a.Points) > 8 {
			return false
		}
		for _, point := range a.Points {
			stands, said := 0, 0
			for _, p := range points {
				if p == point {
					stands++
				}
			}
			for _, p := range a.Points {
				if p == point {
					said++
				}
			}
			if stands == 0 || said != 1 {
				return false
			}
		}
	}
	for _, n := range s.Sectors {
		sectors = append(sectors, n.Name)
	}
	for i, r := range s.Runways {
		runways = append(runways, r.Name)
		for _, q := range s.Runways[:i] {
			if r.X == q.X && r.Y == q.Y {
				return false
			}
		}
		if r.Turn < 1 || r.Turn > 8 || !inSky(s, r.X, r.Y) || !inSky(s, r.X-turnX[r.Turn], r.Y-turnY[r.Turn]) {
			return false
		}
	}
	return namesAscend(points) && namesAscend(airways) && namesAscend(sectors) && namesAscend(runways) && blocksByPlaces(s)
}

func blocksByPlaces(s impl.Sky) bool {
	for _, n := range s.Sectors {
		if len(n.Blocks) < 1 || len(n.Blocks) > 4 {
			return false
		}
		for i, b := range n.Blocks {
			if b.X0 < 0 || b.X0 > b.X1 || b.X1 >= s.Width || b.Y0 < 0 || b.Y0 > b.Y1 || b.Y1 >= s.Height || b.Low < 1 || b.Low > b.High || b.High > s.Levels {
				return false
			}
			if i == 0 {
				continue
			}
			a := n.Blocks[i-1]
			if a.X0 > b.X0 || a.X0 == b.X0 && (a.Y0 > b.Y0 || a.Y0 == b.Y0 && a.Low >= b.Low) {
				return false
			}
		}
	}
	for place := range s.Width * s.Height * s.Levels {
		x, y, level := place%s.Width, place/s.Width%s.Height, place/s.Width/s.Height+1
		in := 0
		for _, n := range s.Sectors {
			for _, b := range n.Blocks {
				if b.X0 <= x && x <= b.X1 && b.Y0 <= y && y <= b.Y1 && b.Low <= level && level <= b.High {
					in++
				}
			}
		}
		if in != 1 {
			return false
		}
	}
	return true
}

// bend changes one number or one text of a sky, at random, most often by little.
func bend(r *rand.Rand, s *impl.Sky) {
	var numbers []reflect.Value
	eachInt(reflect.ValueOf(s).Elem(), "", func(_ string, v reflect.Value) { numbers = append(numbers, v) })
	switch r.IntN(6) {
	case 0:
		if len(s.Points) > 0 {
			s.Points[r.IntN(len(s.Points))].Name = drawNames(r, 1)[0]
		}
	case 1:
		if len(s.Sectors) > 0 {
			i, k := r.IntN(len(s.Sectors)), r.IntN(len(s.Sectors))
			s.Sectors[i].Blocks, s.Sectors[k].Blocks = s.Sectors[k].Blocks, s.Sectors[i].Blocks
		}
	case 2:
		if len(s.Airways) > 0 {
			a := s.Airways[r.IntN(len(s.Airways))].Points
			i, k := r.IntN(len(a)), r.IntN(len(a))
			a[i], a[k] = a[k], a[i]
			if r.IntN(2) == 0 {
				a[i] = a[k]
			}
		}
	default:
		v := numbers[r.IntN(len(numbers))]
		v.SetInt(v.Int() + int64(r.IntN(3)-1))
	}
}

func TestSkiesAtRandom(t *testing.T) {
	r := rand.New(rand.NewPCG(3, 1))
	count := map[bool]int{}
	for range 4000 {
		s := drawSky(r)
		if !impl.SkyValid(s) {
			t.Fatalf("not valid: %+v", s)
		}
		for range 4 {
			bend(r, &s)
			want := validByPlaces(s)
			count[want]++
			if got := impl.SkyValid(s); got != want {
				t.Fatalf("SkyValid is %v of %+v", got, s)
			}
		}
	}
	if count[true] < 1000 || count[false] < 1000 {
		t.Errorf("too few of one kind: %v", count)
	}
}
