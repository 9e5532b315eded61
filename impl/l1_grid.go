package impl

import "strconv"

const MaxBlocks = 120

const maxReach = 8

// nameLength is fixed because the limits of a grid keep x, y and z to one digit each.
const nameLength = 5

type Grid struct {
	X int
	Y int
	Z int
}

// place holds x, y and z, so that what is true of each of them is written once.
type place [3]int

// IsGrid reports whether a grid is valid.
func IsGrid(g Grid) bool {
	most := place{8, 6, 5}
	for axis, size := range sizesOf(g) {
		if size < 1 || size > most[axis] {
			return false
		}
	}
	return countBlocks(g) <= MaxBlocks
}

// BlockCount returns the number of its blocks.
func BlockCount(g Grid) (int, bool) {
	if !IsGrid(g) {
		return 0, false
	}
	return countBlocks(g), true
}

// BlockAt returns the block at a place. It fails if there is none.
func BlockAt(g Grid, x int, y int, z int) (int, bool) {
	if !IsGrid(g) || !isPlace(g, place{x, y, z}) {
		return 0, false
	}
	return (z*g.Y+y)*g.X + x, true
}

// PlaceOf returns x, y and z of a block.
func PlaceOf(g Grid, i int) (int, int, int, bool) {
	if !isBlock(g, i) {
		return 0, 0, 0, false
	}
	p := findPlace(g, i)
	return p[0], p[1], p[2], true
}

// LevelBlocks returns the blocks of a level, strictly increasing. It fails if there is no such level.
func LevelBlocks(g Grid, z int) ([]int, bool) {
	if !IsGrid(g) || !isPlace(g, place{0, 0, z}) {
		return nil, false
	}
	return blocksWhere(g, func(p place) bool { return p[2] == z }), true
}

// ColumnBlocks returns the blocks at x and y, the top one first. It fails if there are none.
func ColumnBlocks(g Grid, x int, y int) ([]int, bool) {
	if !IsGrid(g) || !isPlace(g, place{x, y, 0}) {
		return nil, false
	}
	return blocksWhere(g, func(p place) bool { return p[0] == x && p[1] == y }), true
}

// NeighboursOf returns the neighbours of a block, strictly increasing.
func NeighboursOf(g Grid, i int) ([]int, bool) {
	if !isBlock(g, i) {
		return nil, false
	}
	from := findPlace(g, i)
	return blocksWhere(g, func(p place) bool { return countSteps(from, p) == 1 }), true
}

// BoxOf returns the blocks whose x, y and z each differ from those of a block by at most r, in 0..8, strictly increasing.
func BoxOf(g Grid, i int, r int) ([]int, bool) {
	if !isBlock(g, i) || r < 0 || r > maxReach {
		return nil, false
	}
	from := findPlace(g, i)
	return blocksWhere(g, func(p place) bool { return isWithin(from, p, r) }), true
}

// StepsBetween returns the sum of the differences of x, y and z of two blocks, without their signs.
func StepsBetween(g Grid, i int, k int) (int, bool) {
	if !isBlock(g, i) || !isBlock(g, k) {
		return 0, false
	}
	return countSteps(findPlace(g, i), findPlace(g, k)), true
}

// BlockName returns x, y and z in decimal, separated by commas.
func BlockName(g Grid, i int) (string, bool) {
	if !isBlock(g, i) {
		return "", false
	}
	return joinNumbers(findPlace(g, i), ","), true
}

// ParseBlock returns the block with the given BlockName. It fails if there is none.
func ParseBlock(g Grid, s string) (int, bool) {
	p, ok := scanName(s)
	if !ok {
		return 0, false
	}
	return BlockAt(g, p[0], p[1], p[2])
}

// GridText returns X, Y and Z in decimal, separated by x.
func GridText(g Grid) (string, bool) {
	if !IsGrid(g) {
		return "", false
	}
	return joinNumbers(sizesOf(g), "x"), true
}

func sizesOf(g Grid) place {
	return place{g.X, g.Y, g.Z}
}

func countBlocks(g Grid) int {
	return g.X * g.Y * g.Z
}

func isBlock(g Grid, i int) bool {
	return IsGrid(g) && i >= 0 && i < countBlocks(g)
}

func isPlace(g Grid, p place) bool {
	for axis, size := range sizesOf(g) {
		if p[axis] < 0 || p[axis] >= size {
			return false
		}
	}
	return true
}

func findPlace(g Grid, i int) place {
	return place{i % g.X, i / g.X % g.Y, i / g.X / g.Y}
}

// blocksWhere goes through the blocks in order of their numbers, so that every list comes out increasing.
func blocksWhere(g Grid, wanted func(place) bool) []int {
	var blocks []int
	for i := range countBlocks(g) {
		if wanted(findPlace(g, i)) {
			blocks = append(blocks, i)
		}
	}
	return blocks
}

func differenceOf(a int, b int) int {
	if a < b {
		return b - a
	}
	return a - b
}

func countSteps(p place, q place) int {
	steps := 0
	for axis := range p {
		steps += differenceOf(p[axis], q[axis])
	}
	return steps
}

func isWithin(p place, q place, r int) bool {
	for axis := range p {
		if differenceOf(p[axis], q[axis]) > r {
			return false
		}
	}
	return true
}

func joinNumbers(l [3]int, separator string) string {
	return strconv.Itoa(l[0]) + separator + strconv.Itoa(l[1]) + separator + strconv.Itoa(l[2])
}

// scanName takes only three digits with commas between them: a longer spelling of a number is no name of a block.
func scanName(s string) (place, bool) {
	var p place
	if len(s) != nameLength {
		return p, false
	}
	for at, r := range s {
		if at%2 == 1 {
			if r != ',' {
				return place{}, false
			}
			continue
		}
		if r < '0' || r > '9' {
			return place{}, false
		}
		p[at/2] = int(r - '0')
	}
	return p, true
}
