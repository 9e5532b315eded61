package tests

import (
	"fmt"
	"math"
	"slices"
	"strings"
	"testing"

	"loop.example/g00914/impl"
)

// spot is a block as the document numbers it: found by counting and not by the program.
type spot struct{ x, y, z int }

// spotsOf lists the places of a grid in the order of the numbers of their blocks.
func spotsOf(g impl.Grid) []spot {
	var spots []spot
	for z := 0; z < g.Z; z++ {
		for y := 0; y < g.Y; y++ {
			for x := 0; x < g.X; x++ {
				spots = append(spots, spot{x, y, z})
			}
		}
	}
	return spots
}

func apart(a, b int) int { return max(a-b, b-a) }

func (a spot) steps(b spot) int { return apart(a.x, b.x) + apart(a.y, b.y) + apart(a.z, b.z) }

func (a spot) widest(b spot) int { return max(apart(a.x, b.x), apart(a.y, b.y), apart(a.z, b.z)) }

func spotsWhere(spots []spot, wanted func(spot) bool) []int {
	var l []int
	for i, s := range spots {
		if wanted(s) {
			l = append(l, i)
		}
	}
	return l
}

func checkList(t *testing.T, what string, got []int, ok bool, want []int) {
	t.Helper()
	if !ok || !slices.Equal(got, want) || !isIncreasing(got) {
		t.Errorf("%s: %v %v, not %v", what, got, ok, want)
	}
}

func TestGridExample(t *testing.T) {
	g := impl.Grid{X: 3, Y: 2, Z: 2}
	if i, ok := impl.BlockAt(g, 1, 1, 1); i != 10 || !ok {
		t.Error("block", i, ok)
	}
	if s, ok := impl.BlockName(g, 10); s != "1,1,1" || !ok {
		t.Error("name", s, ok)
	}
	if i, ok := impl.ParseBlock(g, "1,1,1"); i != 10 || !ok {
		t.Error("block of a name", i, ok)
	}
	l, ok := impl.NeighboursOf(g, 10)
	checkList(t, "neighbours", l, ok, []int{4, 7, 9, 11})
}

func TestGridLimits(t *testing.T) {
	if impl.MaxBlocks != 120 {
		t.Error("MaxBlocks", impl.MaxBlocks)
	}
	for _, g := range allGrids() {
		if !impl.IsGrid(g) {
			t.Error("a valid grid is refused", g)
		}
	}
	for _, g := range wrongGrids() {
		if impl.IsGrid(g) {
			t.Error("an invalid grid is taken", g)
		}
	}
	valid := allGrids()
	for x := -2; x <= 11; x++ {
		for y := -2; y <= 9; y++ {
			for z := -2; z <= 8; z++ {
				g := impl.Grid{X: x, Y: y, Z: z}
				if impl.IsGrid(g) != slices.Contains(valid, g) {
					t.Error("IsGrid is wrong about", g)
				}
			}
		}
	}
}

func TestGridAtMaxBlocks(t *testing.T) {
	for _, g := range []impl.Grid{{X: 8, Y: 5, Z: 3}, {X: 8, Y: 3, Z: 5}, {X: 6, Y: 5, Z: 4}, {X: 5, Y: 6, Z: 4}, {X: 4, Y: 6, Z: 5}, {X: 6, Y: 4, Z: 5}} {
		if n, ok := impl.BlockCount(g); n != 120 || !ok {
			t.Error("count", g, n, ok)
		}
		x, y, z, ok := impl.PlaceOf(g, 119)
		if x != g.X-1 || y != g.Y-1 || z != g.Z-1 || !ok {
			t.Error("last place", g, x, y, z, ok)
		}
		if x, y, z, ok := impl.PlaceOf(g, 120); x != 0 || y != 0 || z != 0 || ok {
			t.Error("place behind the last one", g, x, y, z, ok)
		}
	}
}

func TestGridOfOneBlock(t *testing.T) {
	g := impl.Grid{X: 1, Y: 1, Z: 1}
	if n, ok := impl.BlockCount(g); n != 1 || !ok {
		t.Error("count", n, ok)
	}
	if i, ok := impl.BlockAt(g, 0, 0, 0); i != 0 || !ok {
		t.Error("block", i, ok)
	}
	if x, y, z, ok := impl.PlaceOf(g, 0); x != 0 || y != 0 || z != 0 || !ok {
		t.Error("place", x, y, z, ok)
	}
	l, ok := impl.LevelBlocks(g, 0)
	checkList(t, "level", l, ok, []int{0})
	l, ok = impl.ColumnBlocks(g, 0, 0)
	checkList(t, "column", l, ok, []int{0})
	l, ok = impl.NeighboursOf(g, 0)
	checkList(t, "neighbours", l, ok, nil)
	l, ok = impl.BoxOf(g, 0, 8)
	checkList(t, "box", l, ok, []int{0})
	if n, ok := impl.StepsBetween(g, 0, 0); n != 0 || !ok {
		t.Error("steps", n, ok)
	}
	if s, ok := impl.BlockName(g, 0); s != "0,0,0" || !ok {
		t.Error("name", s, ok)
	}
	if i, ok := impl.ParseBlock(g, "0,0,0"); i != 0 || !ok {
		t.Error("block of a name", i, ok)
	}
	if s, ok := impl.GridText(g); s != "1x1x1" || !ok {
		t.Error("text", s, ok)
	}
}

// Promise 1: blocks and places belong to each other.
func TestBlocksAndPlaces(t *testing.T) {
	for _, g := range allGrids() {
		spots := spotsOf(g)
		if n, ok := impl.BlockCount(g); n != len(spots) || !ok {
			t.Error("count", g, n, ok)
		}
		for i, s := range spots {
			if k, ok := impl.BlockAt(g, s.x, s.y, s.z); k != i || !ok {
				t.Error("block", g, s, k, ok)
			}
			if x, y, z, ok := impl.PlaceOf(g, i); (spot{x, y, z}) != s || !ok {
				t.Error("place", g, i, x, y, z, ok)
			}
		}
	}
}

func TestPlacesThatDoNotExist(t *testing.T) {
	for _, g := range allGrids() {
		spots := spotsOf(g)
		for x := -1; x <= g.X; x++ {
			for y := -1; y <= g.Y; y++ {
				for z := -1; z <= g.Z; z++ {
					if i, ok := impl.BlockAt(g, x, y, z); ok != slices.Contains(spots, spot{x, y, z}) || !ok && i != 0 {
						t.Error("block", g, x, y, z, i, ok)
					}
				}
			}
		}
		for _, i := range []int{-1, len(spots), math.MinInt, math.MaxInt} {
			if x, y, z, ok := impl.PlaceOf(g, i); x != 0 || y != 0 || z != 0 || ok {
				t.Error("place", g, i, x, y, z, ok)
			}
		}
	}
}

func TestLevelsAndColumns(t *testing.T) {
	for _, g := range allGrids() {
		spots := spotsOf(g)
		var levels, columns []int
		for z := range g.Z {
			l, ok := impl.LevelBlocks(g, z)
			checkList(t, fmt.Sprint("level ", g, z), l, ok, spotsWhere(spots, func(s spot) bool { return s.z == z }))
			levels = append(levels, l...)
		}
		for y := range g.Y {
			for x := range g.X {
				l, ok := impl.ColumnBlocks(g, x, y)
				checkList(t, fmt.Sprint("column ", g, x, y), l, ok, spotsWhere(spots, func(s spot) bool { return s.x == x && s.y == y }))
				columns = append(columns, l...)
			}
		}
		slices.Sort(columns)
		if len(levels) != len(spots) || !slices.Equal(levels, columns) {
			t.Error("levels and columns do not have each block once", g)
		}
	}
}

func TestLevelsAndColumnsThatDoNotExist(t *testing.T) {
	for _, g := range allGrids() {
		for _, n := range append([]int{g.X, g.Y, g.Z}, edgeInts()...) {
			if l, ok := impl.LevelBlocks(g, n); (n < 0 || n >= g.Z) && (ok || len(l) != 0) {
				t.Error("level", g, n, l, ok)
			}
			if l, ok := impl.ColumnBlocks(g, n, 0); (n < 0 || n >= g.X) && (ok || len(l) != 0) {
				t.Error("column by x", g, n, l, ok)
			}
			if l, ok := impl.ColumnBlocks(g, 0, n); (n < 0 || n >= g.Y) && (ok || len(l) != 0) {
				t.Error("column by y", g, n, l, ok)
			}
		}
	}
}

func TestNeighbours(t *testing.T) {
	for _, g := range allGrids() {
		spots := spotsOf(g)
		for i, s := range spots {
			l, ok := impl.NeighboursOf(g, i)
			checkList(t, fmt.Sprint("neighbours ", g, i), l, ok, spotsWhere(spots, func(q spot) bool { return s.steps(q) == 1 }))
		}
	}
}

func TestSteps(t *testing.T) {
	for _, g := range allGrids() {
		spots := spotsOf(g)
		for i, s := range spots {
			for k, q := range spots {
				if n, ok := impl.StepsBetween(g, i, k); n != s.steps(q) || !ok {
					t.Error("steps", g, i, k, n, ok)
				}
			}
		}
	}
}

// Promise 1: boxes grow.
func TestBoxes(t *testing.T) {
	for _, g := range allGrids() {
		spots := spotsOf(g)
		for i, s := range spots {
			inner := []int{i}
			for r := 0; r <= 8; r++ {
				box, ok := impl.BoxOf(g, i, r)
				checkList(t, fmt.Sprint("box ", g, i, r), box, ok, spotsWhere(spots, func(q spot) bool { return s.widest(q) <= r }))
				for _, k := range inner {
					if !slices.Contains(box, k) {
						t.Error("a box loses a block when it grows", g, i, r, k)
					}
				}
				inner = box
			}
			if len(inner) != len(spots) {
				t.Error("the widest box is not the whole grid", g, i)
			}
		}
	}
}

func TestBoxesThatDoNotExist(t *testing.T) {
	for _, g := range allGrids() {
		for _, r := range edgeInts() {
			if l, ok := impl.BoxOf(g, 0, r); ok != (r >= 0 && r <= 8) || !ok && len(l) != 0 {
				t.Error("box", g, r, l, ok)
			}
		}
	}
}

func TestNames(t *testing.T) {
	for _, g := range allGrids() {
		for i, s := range spotsOf(g) {
			want := fmt.Sprintf("%d,%d,%d", s.x, s.y, s.z)
			name, ok := impl.BlockName(g, i)
			if name != want || !ok {
				t.Error("name", g, i, name, ok)
			}
			if k, ok := impl.ParseBlock(g, want); k != i || !ok {
				t.Error("block of a name", g, want, k, ok)
			}
		}
		want := fmt.Sprintf("%dx%dx%d", g.X, g.Y, g.Z)
		if s, ok := impl.GridText(g); s != want || !ok {
			t.Error("text", g, s, ok)
		}
	}
}

// wrongNames are texts that are no name of a block in any grid.
func wrongNames() []string {
	return []string{
		"", ",", ",,", ",,,,,", "1", "1,1", "1,1,", ",1,1", "1,,1", "1,1,1,", ",1,1,1", "1,1,1,1", "1,1,1,1,1", "11111", "1,111", "111,1",
		" 1,1,1", "1,1,1 ", "1, 1,1", "1 ,1,1", "1 1 1", "1;1;1", "1.1.1", "1x1x1", "1,1;1", "1,1,1\n", "1,1,1\x00", "1\x00,1,1", "\x001,1,1",
		"01,1,1", "1,01,1", "1,1,01", "00,0,0", "0,0,00", "+1,1,1", "1,+1,1", "-1,1,1", "-0,0,0", "0,-0,0", "0,0,-0", "0x1,1,1", "1e0,1,1", "1_,1,1",
		"a,b,c", "a,1,1", "1,a,1", "1,1,a", "/,1,1", ":,1,1", "1,1,/", "1,1,:", "1-1-1", "1+1+1", "9,9,9", "8,0,0", "0,6,0", "0,0,5",
		"10,1,1", "1,10,1", "1,1,10", "256,0,0", "18446744073709551616,0,0", "9223372036854775807,0,0", "-9223372036854775808,0,0",
		"\uff11,1,1", "1\uff0c1,1", "\u0661,\u0661,\u0661", "1,1,\u00b9", "\u00b2,1,", "1,1\u00b7", "\u0131,1", "1,\u0131,1", "\U00011111,", "0,0\u012c", "\u012c0,0", "0,\u0130,", "0\u012c,0", "\u0130\u012c0", "\u1680,,", "\ufeff1,", "\ufeff1,1,1",
		"\xff,1,1", "1\xff1,1", "1,1,\xff", "1,1\xff1", "\xc0\xb1,1", "\xff\xff\xff\xff\xff", "\xed\xa0\x80,1", "(,1,1", "1,1,(",
		strings.Repeat("1,", 100000), strings.Repeat("0", 100000) + "1,1,1",
	}
}

func TestTextsThatAreNoName(t *testing.T) {
	for _, g := range append(allGrids(), wrongGrids()...) {
		for _, s := range wrongNames() {
			if i, ok := impl.ParseBlock(g, s); i != 0 || ok {
				t.Errorf("block of %.20q in %v: %d %v", s, g, i, ok)
			}
		}
	}
}

func TestShortTexts(t *testing.T) {
	g := impl.Grid{X: 2, Y: 3, Z: 4}
	names := map[string]int{}
	for i, s := range spotsOf(g) {
		names[fmt.Sprintf("%d,%d,%d", s.x, s.y, s.z)] = i
	}
	texts := []string{""}
	for length := 0; length <= 6; length++ {
		var longer []string
		for _, s := range texts {
			i, ok := impl.ParseBlock(g, s)
			if want, is := names[s]; i != want || ok != is {
				t.Errorf("block of %q: %d %v", s, i, ok)
			}
			for _, b := range []string{"0", "1", "3", ",", "-", "\xff"} {
				longer = append(longer, s+b)
			}
		}
		texts = longer
	}
}

func TestNamesOfOtherGrids(t *testing.T) {
	for _, g := range allGrids() {
		for x := range 10 {
			for y := range 10 {
				for z := range 10 {
					s := fmt.Sprintf("%d,%d,%d", x, y, z)
					i, ok := impl.ParseBlock(g, s)
					want, is := 0, x < g.X && y < g.Y && z < g.Z
					if is {
						want = (z*g.Y+y)*g.X + x
					}
					if i != want || ok != is {
						t.Error("block of a name", g, s, i, ok)
					}
				}
			}
		}
	}
}

func TestBlocksThatDoNotExist(t *testing.T) {
	for _, g := range allGrids() {
		n := g.X * g.Y * g.Z
		for _, i := range append([]int{n, n + 1}, edgeInts()...) {
			if i >= 0 && i < n {
				continue
			}
			if l, ok := impl.NeighboursOf(g, i); len(l) != 0 || ok {
				t.Error("neighbours", g, i, l, ok)
			}
			if l, ok := impl.BoxOf(g, i, 1); len(l) != 0 || ok {
				t.Error("box", g, i, l, ok)
			}
			if k, ok := impl.StepsBetween(g, i, 0); k != 0 || ok {
				t.Error("steps from", g, i, k, ok)
			}
			if k, ok := impl.StepsBetween(g, 0, i); k != 0 || ok {
				t.Error("steps to", g, i, k, ok)
			}
			if s, ok := impl.BlockName(g, i); s != "" || ok {
				t.Error("name", g, i, s, ok)
			}
		}
	}
}

func TestWrongGridsGiveNothing(t *testing.T) {
	for _, g := range wrongGrids() {
		if n, ok := impl.BlockCount(g); n != 0 || ok {
			t.Error("count", g, n, ok)
		}
		if i, ok := impl.BlockAt(g, 0, 0, 0); i != 0 || ok {
			t.Error("block", g, i, ok)
		}
		if x, y, z, ok := impl.PlaceOf(g, 0); x != 0 || y != 0 || z != 0 || ok {
			t.Error("place", g, x, y, z, ok)
		}
		if l, ok := impl.LevelBlocks(g, 0); len(l) != 0 || ok {
			t.Error("level", g, l, ok)
		}
		if l, ok := impl.ColumnBlocks(g, 0, 0); len(l) != 0 || ok {
			t.Error("column", g, l, ok)
		}
		if l, ok := impl.NeighboursOf(g, 0); len(l) != 0 || ok {
			t.Error("neighbours", g, l, ok)
		}
		if l, ok := impl.BoxOf(g, 0, 0); len(l) != 0 || ok {
			t.Error("box", g, l, ok)
		}
		if n, ok := impl.StepsBetween(g, 0, 0); n != 0 || ok {
			t.Error("steps", g, n, ok)
		}
		if s, ok := impl.BlockName(g, 0); s != "" || ok {
			t.Error("name", g, s, ok)
		}
		if i, ok := impl.ParseBlock(g, "0,0,0"); i != 0 || ok {
			t.Error("block of a name", g, i, ok)
		}
		if s, ok := impl.GridText(g); s != "" || ok {
			t.Error("text", g, s, ok)
		}
	}
}

// Promise 33: no argument makes a function of chapter 1 panic.
func TestGridsNeverPanic(t *testing.T) {
	grids := append(wrongGrids(), impl.Grid{X: 1, Y: 1, Z: 1}, impl.Grid{X: 3, Y: 2, Z: 2}, impl.Grid{X: 8, Y: 5, Z: 3})
	for _, g := range grids {
		noPanic(t, fmt.Sprint("IsGrid ", g), func() { impl.IsGrid(g) })
		noPanic(t, fmt.Sprint("BlockCount ", g), func() { impl.BlockCount(g) })
		noPanic(t, fmt.Sprint("GridText ", g), func() { impl.GridText(g) })
		for _, s := range wrongNames() {
			noPanic(t, fmt.Sprintf("ParseBlock %v %.20q", g, s), func() { impl.ParseBlock(g, s) })
		}
		for _, a := range edgeInts() {
			noPanic(t, fmt.Sprint("PlaceOf ", g, a), func() { impl.PlaceOf(g, a) })
			noPanic(t, fmt.Sprint("LevelBlocks ", g, a), func() { impl.LevelBlocks(g, a) })
			noPanic(t, fmt.Sprint("NeighboursOf ", g, a), func() { impl.NeighboursOf(g, a) })
			noPanic(t, fmt.Sprint("BlockName ", g, a), func() { impl.BlockName(g, a) })
			for _, b := range edgeInts() {
				noPanic(t, fmt.Sprint("ColumnBlocks ", g, a, b), func() { impl.ColumnBlocks(g, a, b) })
				noPanic(t, fmt.Sprint("BoxOf ", g, a, b), func() { impl.BoxOf(g, a, b) })
				noPanic(t, fmt.Sprint("StepsBetween ", g, a, b), func() { impl.StepsBetween(g, a, b) })
			}
		}
	}
}

func TestBlockAtTakesAllNumbers(t *testing.T) {
	for _, g := range []impl.Grid{{X: 1, Y: 1, Z: 1}, {X: 3, Y: 2, Z: 2}, {X: 8, Y: 5, Z: 3}, {X: 4, Y: 6, Z: 5}} {
		for _, x := range edgeInts() {
			for _, y := range edgeInts() {
				for _, z := range edgeInts() {
					want, is := 0, x >= 0 && x < g.X && y >= 0 && y < g.Y && z >= 0 && z < g.Z
					if is {
						want = (z*g.Y+y)*g.X + x
					}
					noPanic(t, "BlockAt", func() {
						if i, ok := impl.BlockAt(g, x, y, z); i != want || ok != is {
							t.Error("block", g, x, y, z, i, ok)
						}
					})
				}
			}
		}
	}
}

// Promise 33: results are new memory, so that changing one changes no other result and nothing that is kept.
func TestGridResultsAreNew(t *testing.T) {
	for _, g := range []impl.Grid{{X: 1, Y: 1, Z: 1}, {X: 3, Y: 2, Z: 2}, {X: 8, Y: 5, Z: 3}} {
		checkFresh(t, "LevelBlocks", func() []int { l, _ := impl.LevelBlocks(g, 0); return l })
		checkFresh(t, "ColumnBlocks", func() []int { l, _ := impl.ColumnBlocks(g, 0, 0); return l })
		checkFresh(t, "NeighboursOf", func() []int { l, _ := impl.NeighboursOf(g, 0); return l })
		checkFresh(t, "BoxOf", func() []int { l, _ := impl.BoxOf(g, 0, 1); return l })
	}
}
