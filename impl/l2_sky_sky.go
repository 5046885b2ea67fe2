package impl

import (
	"cmp"
	"slices"
)

// Limits of skies.
const (
	SkyMaxName    = 8
	SkyMaxSide    = 16
	SkyMaxLevels  = 6
	SkyMaxPoints  = 16
	SkyMaxAirways = 8
	SkyMaxChain   = 8
	SkyMaxSectors = 6
	SkyMaxBlocks  = 4
	SkyMaxRunways = 4
)

// SkyPoint is a point with a name.
type SkyPoint struct {
	Name string
	X    int
	Y    int
}

// SkyAirway is a chain of points.
type SkyAirway struct {
	Name   string
	Points []string
}

// SkyBlock is a block of places.
type SkyBlock struct {
	X0   int
	Y0   int
	X1   int
	Y1   int
	Low  int
	High int
}

// SkySector is a part of the sky.
type SkySector struct {
	Name   string
	Blocks []SkyBlock
}

// SkyRunway is a runway, and the way it is landed on.
type SkyRunway struct {
	Name string
	X    int
	Y    int
	Turn int
}

// Sky is all there is.
type Sky struct {
	Width   int
	Height  int
	Levels  int
	Points  []SkyPoint
	Airways []SkyAirway
	Sectors []SkySector
	Runways []SkyRunway
}

// SkyValid says whether a sky is valid.
func SkyValid(s Sky) bool {
	c := skyChecker{sky: s}
	// The size is checked first: all other checks trust that the cells are few.
	checks := []func() bool{c.sizeOk, c.pointsOk, c.airwaysOk, c.sectorsOk, c.runwaysOk}
	for _, check := range checks {
		if !check() {
			return false
		}
	}
	return true
}

// skyTurnWords are the words of the turns: that of turn 1 is the first.
var skyTurnWords = [8]string{"n", "ne", "e", "se", "s", "sw", "w", "nw"}

// skyGoes is what X and Y go by in a turn.
type skyGoes struct {
	x int
	y int
}

// skyTurns is what X and Y go by in each turn, that of turn 1 first. The word of a turn tells it:
// each of its letters is one cell towards where it says.
func skyTurns() []skyGoes {
	turns := make([]skyGoes, 0, len(skyTurnWords))
	for _, word := range skyTurnWords {
		goes := skyGoes{}
		for _, letter := range word {
			goes = goes.towards(letter)
		}
		turns = append(turns, goes)
	}
	return turns
}

func (g skyGoes) towards(letter rune) skyGoes {
	switch letter {
	case 'n':
		g.y++
	case 's':
		g.y--
	case 'e':
		g.x++
	case 'w':
		g.x--
	}
	return g
}

// skySpot is a place, or, at level 0, where no place is, a cell.
type skySpot struct {
	x     int
	y     int
	level int
}

// skyTaken counts what stands where.
type skyTaken map[skySpot]int

// take says whether it is the first to stand there.
func (t skyTaken) take(at skySpot) bool {
	t[at]++
	return t[at] == 1
}

// takeBlock says whether the block is the first to have each of its places.
func (t skyTaken) takeBlock(b SkyBlock) bool {
	for x := b.X0; x <= b.X1; x++ {
		for y := b.Y0; y <= b.Y1; y++ {
			for level := b.Low; level <= b.High; level++ {
				if !t.take(skySpot{x: x, y: y, level: level}) {
					return false
				}
			}
		}
	}
	return true
}

// skyChecker has the checks of a sky.
type skyChecker struct {
	sky Sky
}

func (c skyChecker) sizeOk() bool {
	return skyFrom(c.sky.Width, 1, SkyMaxSide) && skyFrom(c.sky.Height, 1, SkyMaxSide) && skyFrom(c.sky.Levels, 1, SkyMaxLevels)
}

func (c skyChecker) pointsOk() bool {
	if !skyNamesOk(c.sky.Points, SkyMaxPoints, func(p SkyPoint) string { return p.Name }) {
		return false
	}
	taken := skyTaken{}
	for _, p := range c.sky.Points {
		if !skyHasCell(c.sky, p.X, p.Y) || !taken.take(skySpot{x: p.X, y: p.Y}) {
			return false
		}
	}
	return true
}

func (c skyChecker) airwaysOk() bool {
	if !skyNamesOk(c.sky.Airways, SkyMaxAirways, func(a SkyAirway) string { return a.Name }) {
		return false
	}
	for _, a := range c.sky.Airways {
		if !c.chainOk(a.Points) {
			return false
		}
	}
	return true
}

func (c skyChecker) chainOk(chain []string) bool {
	if !skyFrom(len(chain), 2, SkyMaxChain) {
		return false
	}
	for i, name := range chain {
		if !skyHasPoint(c.sky, name) || slices.Contains(chain[:i], name) {
			return false
		}
	}
	return true
}

func (c skyChecker) sectorsOk() bool {
	if !skyNamesOk(c.sky.Sectors, SkyMaxSectors, func(s SkySector) string { return s.Name }) {
		return false
	}
	taken := skyTaken{}
	for _, s := range c.sky.Sectors {
		if !c.blocksOk(s.Blocks, taken) {
			return false
		}
	}
	// All blocks lie within the sky, so there is no hole just if they have as many places as it has.
	return len(taken) == c.sky.Width*c.sky.Height*c.sky.Levels
}

func (c skyChecker) blocksOk(blocks []SkyBlock, taken skyTaken) bool {
	if !skyFrom(len(blocks), 1, SkyMaxBlocks) {
		return false
	}
	for i, b := range blocks {
		if i > 0 && skyCompareBlocks(blocks[i-1], b) >= 0 {
			return false
		}
		// A block that reaches out of the sky may have too many places to go through.
		if !skyHasBlock(c.sky, b) || !taken.takeBlock(b) {
			return false
		}
	}
	return true
}

func (c skyChecker) runwaysOk() bool {
	if !skyNamesOk(c.sky.Runways, SkyMaxRunways, func(r SkyRunway) string { return r.Name }) {
		return false
	}
	taken := skyTaken{}
	for _, r := range c.sky.Runways {
		if !skyHasRunway(c.sky, r) || !taken.take(skySpot{x: r.X, y: r.Y}) {
			return false
		}
	}
	return true
}

// skyFrom says whether a number is from low to high.
func skyFrom(number int, low int, high int) bool {
	return low <= number && number <= high
}

// skyNameOk says whether a text is a name.
func skyNameOk(name string) bool {
	if !skyFrom(len(name), 1, SkyMaxName) {
		return false
	}
	for _, r := range name {
		if !('a' <= r && r <= 'z' || '0' <= r && r <= '9' || r == '-') {
			return false
		}
	}
	return true
}

// skyNamesOk says whether a list is at most so long, with names that are names and ascend.
func skyNamesOk[T any](list []T, most int, nameOf func(T) string) bool {
	if len(list) > most {
		return false
	}
	for i, one := range list {
		if !skyNameOk(nameOf(one)) || i > 0 && nameOf(list[i-1]) >= nameOf(one) {
			return false
		}
	}
	return true
}

// skyHasCell says whether a cell is one of a sky.
func skyHasCell(s Sky, x int, y int) bool {
	return skyFrom(x, 0, s.Width-1) && skyFrom(y, 0, s.Height-1)
}

// skyHasPoint says whether a sky has a point of this name.
func skyHasPoint(s Sky, name string) bool {
	return slices.ContainsFunc(s.Points, func(p SkyPoint) bool { return p.Name == name })
}

// skyHasBlock says whether a block is one as in a valid sky of this size.
func skyHasBlock(s Sky, b SkyBlock) bool {
	corners := skyHasCell(s, b.X0, b.Y0) && skyHasCell(s, b.X1, b.Y1)
	levels := skyFrom(b.Low, 1, s.Levels) && skyFrom(b.High, 1, s.Levels)
	return corners && levels && b.X0 <= b.X1 && b.Y0 <= b.Y1 && b.Low <= b.High
}

// skyCompareBlocks is the order in which blocks stand in their sector.
func skyCompareBlocks(a SkyBlock, b SkyBlock) int {
	return cmp.Or(cmp.Compare(a.X0, b.X0), cmp.Compare(a.Y0, b.Y0), cmp.Compare(a.Low, b.Low))
}

// skyHasRunway says whether a runway has a turn, and it and the cell ahead of it are cells of a sky.
func skyHasRunway(s Sky, r SkyRunway) bool {
	turns := skyTurns()
	// The runway's own cell is asked for first: only near the sky's cells is there surely a number one less.
	if !skyFrom(r.Turn, 1, len(turns)) || !skyHasCell(s, r.X, r.Y) {
		return false
	}
	goes := turns[r.Turn-1]
	return skyHasCell(s, r.X-goes.x, r.Y-goes.y)
}
