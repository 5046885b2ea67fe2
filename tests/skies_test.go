package tests

import (
	"cmp"
	"fmt"
	"math/rand/v2"
	"slices"

	"loop.example/lapwing/impl"
)

// coverSky is a valid sky of this size, if there is one: a sector with one block, and nothing else.
func coverSky(width, height, levels int) impl.Sky {
	all := impl.SkyBlock{X1: width - 1, Y1: height - 1, Low: 1, High: levels}
	return impl.Sky{Width: width, Height: height, Levels: levels, Sectors: []impl.SkySector{{Name: "all", Blocks: []impl.SkyBlock{all}}}}
}

// smallSky is a valid sky with some of everything.
func smallSky() impl.Sky {
	return impl.Sky{
		Width: 5, Height: 4, Levels: 3,
		Points: []impl.SkyPoint{{Name: "a", X: 0, Y: 0}, {Name: "b", X: 4, Y: 3}, {Name: "c", X: 2, Y: 1}},
		Airways: []impl.SkyAirway{
			{Name: "j1", Points: []string{"b", "a"}},
			{Name: "j2", Points: []string{"a", "c", "b"}},
		},
		Sectors: []impl.SkySector{
			{Name: "one", Blocks: []impl.SkyBlock{{X0: 0, Y0: 0, X1: 1, Y1: 3, Low: 1, High: 2}, {X0: 0, Y0: 0, X1: 1, Y1: 3, Low: 3, High: 3}}},
			{Name: "two", Blocks: []impl.SkyBlock{{X0: 2, Y0: 0, X1: 4, Y1: 1, Low: 1, High: 3}, {X0: 2, Y0: 2, X1: 4, Y1: 3, Low: 1, High: 3}}},
		},
		Runways: []impl.SkyRunway{{Name: "r1", X: 1, Y: 1, Turn: 2}, {Name: "r2", X: 3, Y: 1, Turn: 7}},
	}
}

// fullSky is a valid sky that meets every limit.
func fullSky() impl.Sky {
	s := impl.Sky{Width: 16, Height: 16, Levels: 6}
	for i := range 16 {
		s.Points = append(s.Points, impl.SkyPoint{Name: fmt.Sprintf("point-%02d", i), X: i, Y: 15 - i})
	}
	for i := range 8 {
		a := impl.SkyAirway{Name: fmt.Sprintf("away%04d", i)}
		for k := range 8 {
			a.Points = append(a.Points, s.Points[(i+15*k)%16].Name)
		}
		s.Airways = append(s.Airways, a)
	}
	for i := range 6 {
		n := impl.SkySector{Name: fmt.Sprintf("level--%d", i)}
		for k := range 4 {
			x, y := k/2*8, k%2*8
			n.Blocks = append(n.Blocks, impl.SkyBlock{X0: x, Y0: y, X1: x + 7, Y1: y + 7, Low: i + 1, High: i + 1})
		}
		s.Sectors = append(s.Sectors, n)
	}
	for i := range 4 {
		s.Runways = append(s.Runways, impl.SkyRunway{Name: fmt.Sprintf("runway-%d", i), X: 15, Y: 15 - i, Turn: 3})
	}
	return s
}

// cloneSky is a copy that shares nothing with the sky, what stands behind the ends of lists included.
func cloneSky(s impl.Sky) impl.Sky {
	s.Points = cloneList(s.Points)
	s.Airways = cloneList(s.Airways)
	for i, a := range s.Airways {
		s.Airways[i].Points = cloneList(a.Points)
	}
	s.Sectors = cloneList(s.Sectors)
	for i, n := range s.Sectors {
		s.Sectors[i].Blocks = cloneList(n.Blocks)
	}
	s.Runways = cloneList(s.Runways)
	return s
}

func cloneList[T any](list []T) []T {
	room := make([]T, cap(list))
	copy(room, list[:cap(list)])
	return room[:len(list)]
}

// drawNames are so many different names, in order.
func drawNames(r *rand.Rand, count int) []string {
	var names []string
	for len(names) < count {
		name := make([]byte, 1+r.IntN(3))
		if r.IntN(4) == 0 {
			name = make([]byte, 8)
		}
		for i := range name {
			name[i] = "ab0-z"[r.IntN(5)]
		}
		if !slices.Contains(names, string(name)) {
			names = append(names, string(name))
		}
	}
	slices.Sort(names)
	return names
}

// splitBlocks cuts blocks in two, at random, until there are as many, or none is left to cut.
func splitBlocks(r *rand.Rand, all impl.SkyBlock, count int) []impl.SkyBlock {
	blocks := []impl.SkyBlock{all}
	for tries := 0; len(blocks) < count && tries < 200; tries++ {
		i := r.IntN(len(blocks))
		a, b := blocks[i], blocks[i]
		switch kind := r.IntN(3); {
		case kind == 0 && a.X0 < a.X1:
			a.X1 = a.X0 + r.IntN(a.X1-a.X0)
			b.X0 = a.X1 + 1
		case kind == 1 && a.Y0 < a.Y1:
			a.Y1 = a.Y0 + r.IntN(a.Y1-a.Y0)
			b.Y0 = a.Y1 + 1
		case kind == 2 && a.Low < a.High:
			a.High = a.Low + r.IntN(a.High-a.Low)
			b.Low = a.High + 1
		default:
			continue
		}
		blocks[i] = a
		blocks = append(blocks, b)
	}
	return blocks
}

func drawSectors(r *rand.Rand, all impl.SkyBlock) []impl.SkySector {
	blocks := splitBlocks(r, all, 1+r.IntN(24))
	r.Shuffle(len(blocks), func(i, k int) { blocks[i], blocks[k] = blocks[k], blocks[i] })
	sectors := make([]impl.SkySector, 0, 6)
	for _, name := range drawNames(r, min(6, max((len(blocks)+3)/4, min(len(blocks), 1+r.IntN(6))))) {
		sectors = append(sectors, impl.SkySector{Name: name})
	}
	for i, b := range blocks {
		n := &sectors[i%len(sectors)]
		n.Blocks = append(n.Blocks, b)
	}
	for _, n := range sectors {
		slices.SortFunc(n.Blocks, func(a, b impl.SkyBlock) int {
			return cmp.Or(a.X0-b.X0, a.Y0-b.Y0, a.Low-b.Low)
		})
	}
	return sectors
}

// drawSky is a valid sky, made at random.
func drawSky(r *rand.Rand) impl.Sky {
	side := []int{3, 5, 16}[r.IntN(3)]
	s := impl.Sky{Width: 1 + r.IntN(side), Height: 1 + r.IntN(side), Levels: 1 + r.IntN(6)}
	s.Sectors = drawSectors(r, impl.SkyBlock{X1: s.Width - 1, Y1: s.Height - 1, Low: 1, High: s.Levels})
	cells := r.Perm(s.Width * s.Height)
	for i, name := range drawNames(r, r.IntN(min(16, len(cells))+1)) {
		s.Points = append(s.Points, impl.SkyPoint{Name: name, X: cells[i] % s.Width, Y: cells[i] / s.Width})
	}
	if len(s.Points) >= 2 {
		for _, name := range drawNames(r, r.IntN(9)) {
			a := impl.SkyAirway{Name: name}
			for _, k := range r.Perm(len(s.Points))[:min(8, 2+r.IntN(len(s.Points)-1))] {
				a.Points = append(a.Points, s.Points[k].Name)
			}
			s.Airways = append(s.Airways, a)
		}
	}
	names := drawNames(r, 4)
	cells = r.Perm(s.Width * s.Height)
	for _, cell := range cells[:min(len(cells), r.IntN(5))] {
		x, y, turn := cell%s.Width, cell/s.Width, 1+r.IntN(8)
		if inSky(s, x-turnX[turn], y-turnY[turn]) {
			s.Runways = append(s.Runways, impl.SkyRunway{Name: names[len(s.Runways)], X: x, Y: y, Turn: turn})
		}
	}
	return s
}

// turnX and turnY are the table of turns of chapter 2, turn by turn.
var (
	turnX = []int{0, 0, 1, 1, 1, 0, -1, -1, -1}
	turnY = []int{0, 1, 1, 0, -1, -1, -1, 0, 1}
)

func inSky(s impl.Sky, x, y int) bool {
	return x >= 0 && x < s.Width && y >= 0 && y < s.Height
}
