package tests

import (
	"cmp"
	"fmt"
	"slices"
	"testing"

	"loop.example/g00914/impl"
)

func pitListsFunctions() map[string]func(arcs, lists [][]int) ([][]int, bool) {
	return map[string]func([][]int, [][]int) ([][]int, bool){"PhasesOf": impl.PhasesOf, "FillPits": impl.FillPits}
}

func widthFunctions() map[string]func(g impl.Grid, arcs [][]int, pit []int, w int) ([]int, bool) {
	return map[string]func(impl.Grid, [][]int, []int, int) ([]int, bool){"TrimPit": impl.TrimPit, "WidenPit": impl.WidenPit}
}

// wideGrid has all squares of one width, level by level, and in each level by y and then x of their first blocks.
type wideGrid struct {
	g       impl.Grid
	w       int
	squares [][]int
}

func wideGridOf(g impl.Grid, w int) wideGrid {
	s := wideGrid{g: g, w: w}
	spots := spotsOf(g)
	for _, first := range spots {
		if first.x+w <= g.X && first.y+w <= g.Y {
			s.squares = append(s.squares, spotsWhere(spots, func(at spot) bool {
				return at.z == first.z && at.x >= first.x && at.x < first.x+w && at.y >= first.y && at.y < first.y+w
			}))
		}
	}
	return s
}

func marksByHand(l []int) []bool {
	marks := make([]bool, 120)
	for _, i := range l {
		marks[i] = true
	}
	return marks
}

func listByHand(marks []bool) []int {
	return numbersWhere(len(marks), func(i int) bool { return marks[i] })
}

func countOutside(l []int, marks []bool) int {
	return len(slices.DeleteFunc(slices.Clone(l), func(i int) bool { return marks[i] }))
}

// wide marks the blocks of all squares that lie in a list.
func (s wideGrid) wide(marks []bool) []bool {
	wide := make([]bool, 120)
	for _, square := range s.squares {
		if countOutside(square, marks) == 0 {
			for _, i := range square {
				wide[i] = true
			}
		}
	}
	return wide
}

// trim leaves out one block after the other, until each one is wide and has its arcs.
func (s wideGrid) trim(arcs [][]int, pit []int) []int {
	left := marksByHand(pit)
	for {
		wide := s.wide(left)
		i := slices.IndexFunc(listByHand(left), func(i int) bool { return !wide[i] || countOutside(arcs[i], left) > 0 })
		if i < 0 {
			return listByHand(left)
		}
		left[listByHand(left)[i]] = false
	}
}

// widen sorts all squares of the first block that is not wide as the document orders them. It fails only where the grid has no square at all.
func (s wideGrid) widen(reach [][]bool, pit []int) ([]int, bool) {
	if len(s.squares) == 0 {
		return nil, false
	}
	closure := marksByHand(pit)
	for {
		wide := s.wide(closure)
		at := slices.IndexFunc(listByHand(closure), func(i int) bool { return !wide[i] })
		if at < 0 {
			return listByHand(closure), true
		}
		narrow := listByHand(closure)[at]
		squares := slices.DeleteFunc(slices.Clone(s.squares), func(square []int) bool { return !slices.Contains(square, narrow) })
		slices.SortFunc(squares, func(a, b []int) int {
			return cmp.Or(
				cmp.Compare(countOutside(a, closure), countOutside(b, closure)),
				cmp.Compare(a[0]/s.g.X, b[0]/s.g.X),
				cmp.Compare(a[0]%s.g.X, b[0]%s.g.X),
			)
		})
		for _, i := range squares[0] {
			for k := range reach {
				closure[k] = closure[k] || reach[i][k]
			}
		}
	}
}

// arePitsByHand goes through the words of the document. It needs valid arcs.
func arePitsByHand(arcs, lists [][]int) bool {
	for k, l := range lists {
		if !isIncreasing(l) || !isIn(l, validLists(len(arcs))[4]) || !isClosureByHand(arcs, l) {
			return false
		}
		if k == 0 && len(l) == 0 || k > 0 && (!isIn(lists[k-1], l) || isIn(l, lists[k-1])) {
			return false
		}
	}
	return len(lists) >= 1 && len(lists) <= 8
}

// phasesByHand gives each block to the first pit that has it.
func phasesByHand(n int, pits [][]int) [][]int {
	phases := make([][]int, len(pits))
	for i := range n {
		if k := phaseByHand(pits, i); k >= 0 {
			phases[k] = append(phases[k], i)
		}
	}
	return phases
}

func phaseByHand(pits [][]int, i int) int {
	return slices.IndexFunc(pits, func(pit []int) bool { return slices.Contains(pit, i) })
}

func joinedByHand(m impl.Model, pits [][]int, least int) [][]int {
	var kept [][]int
	var before []int
	for k, pit := range pits {
		more := slices.DeleteFunc(slices.Clone(pit), func(i int) bool { return slices.Contains(before, i) })
		if tonnes, _ := sumsByHand(m, more); tonnes >= least || k == len(pits)-1 {
			kept, before = append(kept, pit), pit
		}
	}
	return kept
}

func filledByHand(reach [][]bool, lists [][]int) [][]int {
	pits := [][]int{nil}
	for k := range lists {
		if pit := leastByHand(reach, slices.Concat(lists[:k+1]...)); !slices.Equal(pit, pits[len(pits)-1]) {
			pits = append(pits, pit)
		}
	}
	return pits[1:]
}

// firstBlocks are pits that have the first blocks of all: arcs lead to lower numbers, so that these are always closures.
func firstBlocks(sizes ...int) [][]int {
	var pits [][]int
	for _, size := range sizes {
		pits = append(pits, numbersWhere(size, func(int) bool { return true }))
	}
	return pits
}

// grownPits add the cone of one more block each.
func grownPits(reach [][]bool, most, seed int) [][]int {
	next := numbersFrom(uint64(seed))
	var lists [][]int
	for range most {
		lists = append(lists, []int{next(len(reach) - 1)})
	}
	return filledByHand(reach, lists)
}

// somePits of arcs have one list, up to MaxPits lists, all blocks, few blocks, and blocks of cones.
func somePits(arcs [][]int, seed int) [][][]int {
	n, reach := len(arcs), reachByHand(arcs)
	l := [][][]int{firstBlocks(1), firstBlocks(n), {coneByHand(reach, n/2)}, grownPits(reach, 8, seed), grownPits(reach, 4, seed+1), grownPits(reach, 2, seed+2)}
	if n >= 8 {
		l = append(l, firstBlocks(1, 2, 3, 4, 5, 6, 7, 8), firstBlocks(n-7, n-6, n-5, n-4, n-3, n-2, n-1, n), firstBlocks(2, 4, n/2+1, n-1))
	}
	return l
}

func gridsOf(n int) []impl.Grid {
	return slices.DeleteFunc(allGrids(), func(g impl.Grid) bool { return g.X*g.Y*g.Z != n })
}

// arcsOfGrid are those of slopes, and some that go any way.
func arcsOfGrid(g impl.Grid, seed int) [][][]int {
	n := g.X * g.Y * g.Z
	l := [][][]int{noArcs(n), stepArcs(n, 1), stepArcs(n, g.X*g.Y), mixedArcs(n, 2, seed), mixedArcs(n, 12, seed+1), allArcs(n)}
	for _, s := range goodSlopes(g, seed)[6:] {
		l = append(l, arcsByHand(g, s))
	}
	return l
}

func checkNestedLists(t *testing.T, arcs, pits [][]int, want, valid bool) {
	t.Helper()
	if is, ok := impl.AreNested(arcs, pits); is != want || ok != valid {
		t.Error("AreNested", arcs, pits, is, ok)
	}
}

// checkPhases demands what the document says of pits. The phases have each block of the last pit once, and no other one.
func checkPhases(t *testing.T, arcs, pits [][]int) {
	t.Helper()
	checkNestedLists(t, arcs, pits, true, true)
	phases, ok := impl.PhasesOf(arcs, pits)
	checkLists(t, fmt.Sprint("phases of ", arcs, pits), phases, ok, phasesByHand(len(arcs), pits))
	joined := slices.Concat(phases...)
	slices.Sort(joined)
	if !slices.Equal(joined, pits[len(pits)-1]) {
		t.Error("phases do not have each block once", arcs, pits, phases)
	}
	for i := -1; i <= len(arcs); i += 1 + len(arcs)/20 {
		want := phaseByHand(pits, i)
		if k, ok := impl.PhaseOfBlock(arcs, pits, i); k != max(want, 0) || ok != (want >= 0) {
			t.Error("PhaseOfBlock", arcs, pits, i, k, ok)
		}
	}
}

// checkSums demands what the document says of the tonnes of phases.
func checkSums(t *testing.T, m impl.Model, arcs, pits [][]int, leasts ...int) {
	t.Helper()
	var want [][]int
	for _, phase := range phasesByHand(len(arcs), pits) {
		tonnes, metal := sumsByHand(m, phase)
		want = append(want, []int{tonnes, metal})
	}
	sums, ok := impl.PhaseSums(m, arcs, pits)
	checkLists(t, fmt.Sprint("sums of ", m, arcs, pits), sums, ok, want)
	for _, least := range leasts {
		joined, ok := impl.JoinPhases(m, arcs, pits, least)
		checkLists(t, fmt.Sprint("joined ", m, arcs, pits, least), joined, ok, joinedByHand(m, pits, least))
		checkNestedLists(t, arcs, joined, true, true)
	}
}

// leastsOf are the limits, and what the tonnes of one or more phases reach just so, just not and easily.
func leastsOf(m impl.Model, pits [][]int, seed int) []int {
	leasts := []int{0, 1, 2000000}
	for k, pit := range pits {
		more, _ := sumsByHand(m, pit)
		less, _ := sumsByHand(m, pits[(k+seed)%len(pits)])
		leasts = append(leasts, more, more+1, max(more-1, 0), apart(more, less))
	}
	return leasts
}

func checkFill(t *testing.T, arcs [][]int, reach [][]bool, lists [][]int) {
	t.Helper()
	want := filledByHand(reach, lists)
	pits, ok := impl.FillPits(arcs, lists)
	if len(want) == 0 {
		if len(pits) != 0 || ok {
			t.Error("filled from nothing", arcs, lists, pits, ok)
		}
		return
	}
	checkLists(t, fmt.Sprint("filled ", arcs, lists), pits, ok, want)
	checkNestedLists(t, arcs, pits, true, true)
}

// checkNoPhases demands nothing from all functions that need pits. AreNested fails only where the arcs are not valid.
func checkNoPhases(t *testing.T, arcs, pits [][]int, valid bool) {
	t.Helper()
	checkNestedLists(t, arcs, pits, false, valid)
	if phases, ok := impl.PhasesOf(arcs, pits); len(phases) != 0 || ok {
		t.Error("PhasesOf", arcs, pits, phases, ok)
	}
	for _, i := range []int{0, len(arcs) - 1} {
		if k, ok := impl.PhaseOfBlock(arcs, pits, i); k != 0 || ok {
			t.Error("PhaseOfBlock", arcs, pits, i, k, ok)
		}
	}
	for k, g := range gridsOf(len(arcs)) {
		if k < 2 {
			checkNoSums(t, evenModel(g, 10, 10, k), arcs, pits, k)
		}
	}
}

func checkNoSums(t *testing.T, m impl.Model, arcs, pits [][]int, least int) {
	t.Helper()
	if sums, ok := impl.PhaseSums(m, arcs, pits); len(sums) != 0 || ok {
		t.Error("PhaseSums", m, arcs, pits, sums, ok)
	}
	checkNoJoin(t, m, arcs, pits, least)
}

func checkNoJoin(t *testing.T, m impl.Model, arcs, pits [][]int, least int) {
	t.Helper()
	if joined, ok := impl.JoinPhases(m, arcs, pits, least); len(joined) != 0 || ok {
		t.Error("JoinPhases", m, arcs, pits, least, joined, ok)
	}
}

// checkWidth demands what the document says of a pit and a width, and promise 12 of what is told.
func checkWidth(t *testing.T, s wideGrid, arcs [][]int, reach [][]bool, pit []int) {
	t.Helper()
	what := fmt.Sprint(s.g, s.w, arcs, pit)
	trimmed, ok := impl.TrimPit(s.g, arcs, pit, s.w)
	checkList(t, "trimmed "+what, trimmed, ok, s.trim(arcs, pit))
	checkWidePit(t, s, arcs, trimmed)
	if !isIn(trimmed, pit) {
		t.Error("trimming adds a block", what, trimmed)
	}
	widened, ok := impl.WidenPit(s.g, arcs, pit, s.w)
	want, can := s.widen(reach, pit)
	if !can {
		if len(widened) != 0 || ok {
			t.Error("widened without a square", what, widened, ok)
		}
		return
	}
	checkList(t, "widened "+what, widened, ok, want)
	checkWidePit(t, s, arcs, widened)
	if !isIn(pit, widened) {
		t.Error("widening leaves out a block", what, widened)
	}
}

func checkWidePit(t *testing.T, s wideGrid, arcs [][]int, pit []int) {
	t.Helper()
	if is, ok := impl.IsWide(s.g, pit, s.w); !is || !ok || !isClosureByHand(arcs, pit) || countOutside(pit, s.wide(marksByHand(pit))) > 0 {
		t.Error("no wide closure", s.g, s.w, arcs, pit, is, ok)
	}
}

func checkWide(t *testing.T, s wideGrid, l []int) {
	t.Helper()
	want := listByHand(s.wide(marksByHand(l)))
	wide, ok := impl.WideBlocks(s.g, l, s.w)
	checkList(t, fmt.Sprint("wide ", s.g, s.w, l), wide, ok, want)
	if is, ok := impl.IsWide(s.g, l, s.w); is != slices.Equal(want, l) || !ok {
		t.Error("IsWide", s.g, s.w, l, is, ok)
	}
}

// checkNoWidth demands nothing from all functions of a grid.
func checkNoWidth(t *testing.T, g impl.Grid, arcs [][]int, l []int, w int) {
	t.Helper()
	if wide, ok := impl.WideBlocks(g, l, w); len(wide) != 0 || ok {
		t.Error("WideBlocks", g, l, w, wide, ok)
	}
	if is, ok := impl.IsWide(g, l, w); is || ok {
		t.Error("IsWide", g, l, w, is, ok)
	}
	checkNoWidePit(t, g, arcs, l, w)
}

func checkNoWidePit(t *testing.T, g impl.Grid, arcs [][]int, pit []int, w int) {
	t.Helper()
	for what, call := range widthFunctions() {
		if got, ok := call(g, arcs, pit, w); len(got) != 0 || ok {
			t.Error(what, g, arcs, pit, w, got, ok)
		}
	}
}

func TestPhaseExample(t *testing.T) {
	g := impl.Grid{X: 3, Y: 1, Z: 1}
	wide, ok := impl.WideBlocks(g, []int{0, 1, 2}, 2)
	checkList(t, "wide", wide, ok, nil)
	phases, ok := impl.PhasesOf(noArcs(3), [][]int{{1}, {0, 1, 2}})
	checkLists(t, "phases", phases, ok, [][]int{{1}, {0, 2}})
}

// Promise 12 for all lists of few blocks: those that are pits have each block once, and all others have no phases.
func TestPhasesOfFewBlocks(t *testing.T) {
	for n := 1; n <= 4; n++ {
		eachArcs(n, func(arcs [][]int) {
			reach := reachByHand(arcs)
			check := func(lists ...[]int) {
				if arePitsByHand(arcs, lists) {
					checkPhases(t, arcs, lists)
				} else {
					checkNoPhases(t, arcs, lists, true)
				}
				if n < 4 {
					checkFill(t, arcs, reach, lists)
				}
			}
			for a := range 1 << n {
				check(setList(a))
				for b := range 1 << n {
					check(setList(a), setList(b))
					for c := range 1 << n {
						if n < 4 || a&b == a && (b|c)%3 == 0 {
							check(setList(a), setList(b), setList(c))
						}
					}
				}
			}
		})
	}
}

// Promise 12 for pits of many blocks.
func TestPhasesOfManyBlocks(t *testing.T) {
	for k, arcs := range manyArcs() {
		for _, pits := range somePits(arcs, k) {
			checkPhases(t, arcs, pits)
		}
	}
}

func TestNestedListsAtTheirEdges(t *testing.T) {
	if impl.MaxPits != 8 {
		t.Error("MaxPits", impl.MaxPits)
	}
	fork := [][]int{nil, nil, {0, 1}, {1}, nil}
	eight, nine := firstBlocks(1, 2, 3, 4, 5, 6, 7, 8), firstBlocks(1, 2, 3, 4, 5, 6, 7, 8, 9)
	all := validLists(120)[4]
	for _, c := range []struct {
		what   string
		arcs   [][]int
		pits   [][]int
		phases [][]int
	}{
		{"one block", noArcs(1), [][]int{{0}}, [][]int{{0}}},
		{"one pit", fork, [][]int{{0, 1, 2}}, [][]int{{0, 1, 2}}},
		{"one pit of all blocks", allArcs(120), [][]int{all}, [][]int{all}},
		{"blocks between those of other phases", fork, [][]int{{1}, {1, 3}, {0, 1, 2, 3}, {0, 1, 2, 3, 4}}, [][]int{{1}, {3}, {0, 2}, {4}}},
		{"MaxPits pits", stepArcs(8, 1), eight, [][]int{{0}, {1}, {2}, {3}, {4}, {5}, {6}, {7}}},
		{"MaxPits pits of 120 blocks", noArcs(120), [][]int{{119}, {7, 119}, {7, 8, 119}, {0, 7, 8, 119}, {0, 7, 8, 118, 119}, {0, 1, 7, 8, 118, 119}, {0, 1, 2, 7, 8, 118, 119}, all},
			[][]int{{119}, {7}, {8}, {0}, {118}, {1}, {2}, numbersWhere(118, func(i int) bool { return i > 8 || i > 2 && i < 7 })}},
		{"no pit", fork, nil, nil}, {"no pit", fork, [][]int{}, nil},
		{"one empty pit", fork, [][]int{{}}, nil}, {"a first pit that is empty", fork, [][]int{nil, {0}}, nil}, {"a last pit that is empty", fork, [][]int{{0}, nil}, nil},
		{"equal pits", fork, [][]int{{0}, {0}}, nil}, {"equal pits at the end", fork, [][]int{{0}, {0, 1}, {0, 1}}, nil}, {"equal pits of all blocks", allArcs(120), [][]int{all, all}, nil},
		{"a block that is lost", fork, [][]int{{0}, {1}}, nil}, {"a block that is lost from larger pits", fork, [][]int{{0}, {0, 1, 3}, {0, 1, 2, 4}}, nil},
		{"a block of the first pit that is lost at last", fork, [][]int{{4}, {1, 4}, {0, 1, 2}}, nil}, {"a smaller pit", fork, [][]int{{0, 1}, {0}}, nil},
		{"a first list that is no closure", fork, [][]int{{2}, {0, 1, 2}}, nil}, {"a last list that is no closure", fork, [][]int{{1}, {1, 2}}, nil}, {"a list between that is no closure", fork, [][]int{{0}, {0, 2}, {0, 1, 2}}, nil},
		{"a list that is no closure far away", stepArcs(120, 60), [][]int{{0}, without(all, 59)}, nil},
		{"more than MaxPits pits", stepArcs(9, 1), nine, nil}, {"many more than MaxPits pits", noArcs(120), growingLists(120), nil},
		{"more than MaxPits empty lists", noArcs(120), make([][]int, 9), nil},
		{"a pit that falls", noArcs(3), [][]int{{1, 0}}, nil}, {"a block twice", noArcs(3), [][]int{{0, 0}, {0, 1}}, nil}, {"a block twice and no other one more", noArcs(3), [][]int{{0}, {0, 0}}, nil},
	} {
		if c.phases == nil {
			checkNoPhases(t, c.arcs, c.pits, true)
			continue
		}
		checkPhases(t, c.arcs, c.pits)
		phases, ok := impl.PhasesOf(c.arcs, c.pits)
		checkLists(t, c.what, phases, ok, c.phases)
	}
}

// Blocks that are in no phase, or that there are not, have no phase.
func TestBlocksInNoPhase(t *testing.T) {
	arcs, pits := noArcs(5), [][]int{{1}, {1, 3}}
	for i, want := range []int{-1, 0, -1, 1, -1} {
		if k, ok := impl.PhaseOfBlock(arcs, pits, i); k != max(want, 0) || ok != (want >= 0) {
			t.Error("PhaseOfBlock", i, k, ok)
		}
	}
	for _, n := range []int{1, 2, 5, 120} {
		for _, i := range outside(n - 1) {
			if k, ok := impl.PhaseOfBlock(noArcs(n), firstBlocks(n), i); k != 0 || ok {
				t.Error("a phase of no block", n, i, k, ok)
			}
		}
	}
}

// All lists of the blocks of small grids, with all widths.
func TestWideBlocksOfFewBlocks(t *testing.T) {
	for _, g := range []impl.Grid{{X: 1, Y: 1, Z: 1}, {X: 2, Y: 1, Z: 2}, {X: 1, Y: 3, Z: 2}, {X: 8, Y: 1, Z: 1}, {X: 2, Y: 2, Z: 3}, {X: 3, Y: 3, Z: 1}, {X: 4, Y: 2, Z: 1}, {X: 2, Y: 5, Z: 1}, {X: 4, Y: 3, Z: 1}, {X: 3, Y: 4, Z: 1}, {X: 3, Y: 2, Z: 2}, {X: 2, Y: 3, Z: 2}} {
		for w := 1; w <= 3; w++ {
			s := wideGridOf(g, w)
			for set := range 1 << (g.X * g.Y * g.Z) {
				checkWide(t, s, setList(set))
			}
		}
	}
}

func TestWideBlocksOfAllGrids(t *testing.T) {
	for k, g := range allGrids() {
		n := g.X * g.Y * g.Z
		for w := 1; w <= 3; w++ {
			s := wideGridOf(g, w)
			for _, l := range append(validLists(n), mixedList(n, k), mixedList(n, k+w)) {
				checkWide(t, s, l)
			}
			if w > g.X || w > g.Y {
				continue
			}
			// Without one block of a full grid those that are wide only by squares with it are not wide.
			for _, i := range []int{0, n / 2, n - 1, k % n} {
				checkWide(t, s, without(validLists(n)[4], i))
				checkWide(t, s, s.squares[i%len(s.squares)])
			}
		}
	}
}

func TestWideBlocksAtTheirEdges(t *testing.T) {
	three, flat := impl.Grid{X: 3, Y: 3, Z: 1}, impl.Grid{X: 8, Y: 1, Z: 5}
	two := impl.Grid{X: 2, Y: 2, Z: 2}
	for _, c := range []struct {
		what string
		g    impl.Grid
		w    int
		l    []int
		want []int
	}{
		{"no block", three, 2, nil, nil}, {"no block", three, 3, []int{}, nil}, {"no block of a narrow grid", flat, 3, nil, nil},
		{"a width of 1", three, 1, []int{0, 4, 8}, []int{0, 4, 8}}, {"a width of 1 in a narrow grid", flat, 1, []int{3, 39}, []int{3, 39}},
		{"a grid with too few rows", flat, 2, validLists(40)[4], nil}, {"a grid with too few columns", impl.Grid{X: 1, Y: 6, Z: 1}, 2, validLists(6)[4], nil},
		{"a grid with two rows", impl.Grid{X: 5, Y: 2, Z: 1}, 3, validLists(10)[4], nil}, {"a grid with two columns", impl.Grid{X: 2, Y: 5, Z: 1}, 3, validLists(10)[4], nil},
		{"one square", three, 2, []int{0, 1, 3, 4}, []int{0, 1, 3, 4}}, {"the last square", three, 2, []int{4, 5, 7, 8}, []int{4, 5, 7, 8}},
		{"a square and one block", three, 2, []int{0, 1, 3, 4, 5}, []int{0, 1, 3, 4}}, {"one block and a square", three, 2, []int{0, 4, 5, 7, 8}, []int{4, 5, 7, 8}},
		{"three of four", three, 2, []int{0, 1, 3}, nil}, {"three of four", three, 2, []int{1, 3, 4}, nil}, {"three of four", three, 2, []int{0, 3, 4}, nil}, {"three of four", three, 2, []int{0, 1, 4}, nil},
		{"no middle", three, 2, []int{0, 1, 2, 3, 5, 6, 7, 8}, nil}, {"a full square of three", three, 3, validLists(9)[4], validLists(9)[4]}, {"eight of nine", three, 3, validLists(8)[4], nil},
		{"blocks that are last in their squares", impl.Grid{X: 3, Y: 2, Z: 1}, 2, []int{1, 2, 4, 5}, []int{1, 2, 4, 5}},
		{"a square over two rows of numbers", impl.Grid{X: 3, Y: 2, Z: 1}, 2, []int{2, 3, 5}, nil}, {"a row around the edge", impl.Grid{X: 3, Y: 3, Z: 1}, 2, []int{2, 3, 5, 6}, nil},
		{"two in each of two levels", two, 2, []int{0, 1, 4, 5}, nil}, {"two in each of two levels", two, 2, []int{2, 3, 4, 5}, nil}, {"the lower level alone", two, 2, []int{1, 4, 5, 6, 7}, []int{4, 5, 6, 7}},
	} {
		wide, ok := impl.WideBlocks(c.g, c.l, c.w)
		checkList(t, c.what, wide, ok, c.want)
		if is, ok := impl.IsWide(c.g, c.l, c.w); is != (len(c.l) == len(c.want)) || !ok {
			t.Error(c.what, "IsWide", is, ok)
		}
	}
}

// Promise 12 for all pits of small grids: the trimmed pit has all blocks of all wide closures inside.
func TestPitsOfWidthsOfFewBlocks(t *testing.T) {
	for k, g := range []impl.Grid{{X: 1, Y: 1, Z: 1}, {X: 3, Y: 1, Z: 2}, {X: 1, Y: 4, Z: 2}, {X: 2, Y: 2, Z: 2}, {X: 3, Y: 3, Z: 1}, {X: 4, Y: 2, Z: 1}, {X: 2, Y: 3, Z: 1}, {X: 5, Y: 2, Z: 1}, {X: 3, Y: 2, Z: 2}, {X: 2, Y: 2, Z: 3}} {
		n := g.X * g.Y * g.Z
		for at, arcs := range append(arcsOfGrid(g, k), goodArcs(n, k)[5:]...) {
			reach, closures := reachByHand(arcs), closureSets(arcs)
			if len(closures) > 600 {
				continue
			}
			for w := 1; w <= 3; w++ {
				s := wideGridOf(g, w)
				wide := slices.DeleteFunc(slices.Clone(closures), func(set int) bool {
					return countOutside(setList(set), s.wide(marksByHand(setList(set)))) > 0
				})
				for _, set := range closures {
					greatest := 0
					for _, inside := range wide {
						if inside&^set == 0 {
							greatest |= inside
						}
					}
					trimmed, ok := impl.TrimPit(g, arcs, setList(set), w)
					checkList(t, fmt.Sprint("the greatest wide closure ", g, at, w, setList(set)), trimmed, ok, setList(greatest))
					checkWidth(t, s, arcs, reach, setList(set))
				}
			}
		}
	}
}

// Promise 12 for pits of many blocks.
func TestPitsOfWidthsOfManyBlocks(t *testing.T) {
	for k, g := range []impl.Grid{{X: 8, Y: 5, Z: 3}, {X: 5, Y: 6, Z: 4}, {X: 4, Y: 6, Z: 5}, {X: 8, Y: 3, Z: 5}, {X: 8, Y: 6, Z: 2}, {X: 8, Y: 2, Z: 5}, {X: 3, Y: 3, Z: 5}, {X: 2, Y: 2, Z: 5}, {X: 8, Y: 1, Z: 5}, {X: 1, Y: 6, Z: 5}, {X: 4, Y: 4, Z: 4}} {
		for at, arcs := range arcsOfGrid(g, k) {
			reach := reachByHand(arcs)
			pits := append(someClosures(arcs, reach), grownPits(reach, 4, at)...)
			for w := 1; w <= 3; w++ {
				s := wideGridOf(g, w)
				for p, pit := range pits {
					if (p+at)%2 == 0 || len(pit) == 0 {
						checkWidth(t, s, arcs, reach, pit)
					}
				}
			}
		}
	}
}

func TestTrimmedPitsAtTheirEdges(t *testing.T) {
	row, three, deep := impl.Grid{X: 3, Y: 1, Z: 1}, impl.Grid{X: 3, Y: 3, Z: 1}, impl.Grid{X: 3, Y: 3, Z: 2}
	level := impl.Grid{X: 4, Y: 2, Z: 1}
	// Each square needs the block that the square before it has alone.
	falling := withArcs(withArcs(withArcs(noArcs(8), 5, 0), 6, 1), 7, 2)
	needy := withArcs(noArcs(6), 4, 2)
	for _, c := range []struct {
		what string
		g    impl.Grid
		arcs [][]int
		pit  []int
		w    int
		want []int
	}{
		{"no block", three, noArcs(9), nil, 2, nil}, {"no block in a narrow grid", row, noArcs(3), nil, 3, nil}, {"all blocks of a narrow grid", row, noArcs(3), []int{0, 1, 2}, 2, nil},
		{"a width of 1", three, stepArcs(9, 1), []int{0, 1, 2}, 1, []int{0, 1, 2}}, {"a wide pit", three, stepArcs(9, 3), []int{0, 1, 3, 4}, 2, []int{0, 1, 3, 4}}, {"all blocks", three, allArcs(9), validLists(9)[4], 3, validLists(9)[4]},
		{"one block too many", three, noArcs(9), []int{0, 1, 3, 4, 5}, 2, []int{0, 1, 3, 4}}, {"a block that one needs", three, stepArcs(9, 1), validLists(5)[4], 2, nil},
		{"a block that is kept out takes a square away", impl.Grid{X: 3, Y: 2, Z: 1}, needy, validLists(5)[4], 2, nil}, {"the same with the square of the block", impl.Grid{X: 3, Y: 2, Z: 1}, needy, validLists(6)[4], 2, validLists(6)[4]},
		{"again and again until nothing is left", level, falling, []int{0, 1, 2, 3, 5, 6, 7}, 2, nil}, {"the same without arcs", level, noArcs(8), []int{0, 1, 2, 3, 5, 6, 7}, 2, []int{1, 2, 3, 5, 6, 7}},
		{"nothing is left out of all", level, falling, validLists(8)[4], 2, validLists(8)[4]},
		{"what is below goes too", deep, arcsByHand(deep, evenSlopes(deep, 0, standardByHand(2))), []int{1, 3, 4, 5, 7, 13}, 2, nil}, {"what is below is not wide", deep, arcsByHand(deep, evenSlopes(deep, 0, standardByHand(2))), []int{0, 1, 2, 3, 4, 5, 6, 7, 8, 13}, 2, validLists(9)[4]},
		{"what is below is wide", deep, stepArcs(18, 9), []int{0, 1, 2, 3, 4, 9, 10, 12, 13}, 2, []int{0, 1, 3, 4, 9, 10, 12, 13}},
	} {
		trimmed, ok := impl.TrimPit(c.g, c.arcs, c.pit, c.w)
		checkList(t, c.what, trimmed, ok, c.want)
		checkWidth(t, wideGridOf(c.g, c.w), c.arcs, reachByHand(c.arcs), c.pit)
	}
}

func TestWidenedPitsAtTheirEdges(t *testing.T) {
	row, three, deep, two := impl.Grid{X: 3, Y: 1, Z: 1}, impl.Grid{X: 3, Y: 3, Z: 1}, impl.Grid{X: 4, Y: 2, Z: 2}, impl.Grid{X: 3, Y: 2, Z: 2}
	up := stepArcs(16, 8)
	// The first square of block 7 has a large cone, the second one a small one.
	large := withArcs(noArcs(12), 9, 0, 1, 2, 3, 4, 5)
	for _, c := range []struct {
		what string
		g    impl.Grid
		arcs [][]int
		pit  []int
		w    int
		want []int
	}{
		{"no block", three, noArcs(9), nil, 2, nil}, {"no block and a square of three", three, noArcs(9), nil, 3, nil}, {"no block of one", impl.Grid{X: 1, Y: 1, Z: 1}, noArcs(1), nil, 1, nil},
		{"a width of 1 in a narrow grid", row, stepArcs(3, 1), []int{0, 1}, 1, []int{0, 1}}, {"a width of 1", three, noArcs(9), []int{3, 8}, 1, []int{3, 8}}, {"a wide pit", three, stepArcs(9, 3), []int{0, 1, 3, 4}, 2, []int{0, 1, 3, 4}}, {"all blocks", three, allArcs(9), validLists(9)[4], 3, validLists(9)[4]},
		{"four squares of one block", three, noArcs(9), []int{4}, 2, []int{0, 1, 3, 4}}, {"two squares at the same height", three, noArcs(9), []int{1}, 2, []int{0, 1, 3, 4}}, {"two squares over each other", three, noArcs(9), []int{3}, 2, []int{0, 1, 3, 4}},
		{"the least y of two", three, noArcs(9), []int{4, 5}, 2, []int{1, 2, 4, 5}}, {"the least x of two", three, noArcs(9), []int{4, 7}, 2, []int{3, 4, 6, 7}},
		{"the fewest blocks at last", three, noArcs(9), []int{4, 8}, 2, []int{4, 5, 7, 8}}, {"the least y before the least x", three, noArcs(9), []int{4, 5, 6}, 2, []int{1, 2, 3, 4, 5, 6, 7}},
		{"the first block before others", three, noArcs(9), []int{0, 8}, 2, []int{0, 1, 3, 4, 5, 7, 8}}, {"a square of three", three, noArcs(9), []int{8}, 3, validLists(9)[4]},
		{"a square in the level of the block", deep, up, []int{3, 11}, 2, []int{2, 3, 6, 7, 10, 11, 14, 15}}, {"a cone that is wide", deep, up, []int{0, 1, 4, 5, 8}, 2, []int{0, 1, 4, 5, 8, 9, 12, 13}},
		{"a cone that is not wide", deep, withArcs(up, 13, 2, 5), []int{0, 1, 4, 5, 8}, 2, []int{0, 1, 2, 4, 5, 6, 8, 9, 12, 13}},
		{"a cone that does not count", two, large, []int{7}, 2, []int{0, 1, 2, 3, 4, 5, 6, 7, 9, 10}}, {"a square that needs less", two, large, []int{7, 8}, 2, []int{7, 8, 10, 11}},
	} {
		widened, ok := impl.WidenPit(c.g, c.arcs, c.pit, c.w)
		checkList(t, c.what, widened, ok, c.want)
		checkWidth(t, wideGridOf(c.g, c.w), c.arcs, reachByHand(c.arcs), c.pit)
	}
}

// checkNotWidened demands nothing from widening in a grid without a square. The other functions do not fail there: no block is wide.
func checkNotWidened(t *testing.T, g impl.Grid, arcs [][]int, pit []int, w int) {
	t.Helper()
	if widened, ok := impl.WidenPit(g, arcs, pit, w); len(widened) != 0 || ok {
		t.Error("widened", g, arcs, pit, w, widened, ok)
	}
	trimmed, ok := impl.TrimPit(g, arcs, pit, w)
	checkList(t, "trimmed in a narrow grid", trimmed, ok, nil)
	wide, ok := impl.WideBlocks(g, pit, w)
	checkList(t, "wide in a narrow grid", wide, ok, nil)
	if is, ok := impl.IsWide(g, pit, w); is != (len(pit) == 0) || !ok {
		t.Error("IsWide", g, pit, w, is, ok)
	}
}

// Where there is no square, widening fails for each pit, also for the empty one.
func TestNarrowGridsAreNotWidened(t *testing.T) {
	for _, g := range allGrids() {
		n := g.X * g.Y * g.Z
		for w := 2; w <= 3; w++ {
			if w <= g.X && w <= g.Y {
				continue
			}
			for _, arcs := range [][][]int{noArcs(n), stepArcs(n, 1), allArcs(n)} {
				for _, pit := range [][]int{nil, {}, {0}, firstBlocks(n)[0], firstBlocks((n + 1) / 2)[0]} {
					checkNotWidened(t, g, arcs, pit, w)
				}
			}
		}
	}
}

// An empty pit is left as it is where the grid has a square, be it the only one, and is refused where it has none.
func TestEmptyPitsAreWidenedInWideGrids(t *testing.T) {
	for _, c := range []struct {
		what string
		g    impl.Grid
		w    int
		ok   bool
	}{
		{"one block", impl.Grid{X: 1, Y: 1, Z: 1}, 2, false}, {"one block", impl.Grid{X: 1, Y: 1, Z: 1}, 3, false},
		{"too narrow in x for 2", impl.Grid{X: 1, Y: 2, Z: 1}, 2, false}, {"much too long for 2", impl.Grid{X: 1, Y: 6, Z: 5}, 2, false},
		{"too narrow in y for 2", impl.Grid{X: 2, Y: 1, Z: 1}, 2, false}, {"much too broad for 2", impl.Grid{X: 8, Y: 1, Z: 5}, 2, false},
		{"too narrow in x for 3", impl.Grid{X: 2, Y: 3, Z: 1}, 3, false}, {"much too long for 3", impl.Grid{X: 2, Y: 6, Z: 5}, 3, false},
		{"too narrow in y for 3", impl.Grid{X: 3, Y: 2, Z: 1}, 3, false}, {"much too broad for 3", impl.Grid{X: 8, Y: 2, Z: 5}, 3, false},
		{"too narrow in both for 3", impl.Grid{X: 2, Y: 2, Z: 1}, 3, false}, {"levels that do not make it broader", impl.Grid{X: 1, Y: 1, Z: 5}, 2, false}, {"levels that do not make it broader", impl.Grid{X: 2, Y: 2, Z: 5}, 3, false},
		{"just one square of 1", impl.Grid{X: 1, Y: 1, Z: 1}, 1, true}, {"just one square of 2", impl.Grid{X: 2, Y: 2, Z: 1}, 2, true}, {"just one square of 3", impl.Grid{X: 3, Y: 3, Z: 1}, 3, true},
		{"two squares in x", impl.Grid{X: 3, Y: 2, Z: 1}, 2, true}, {"two squares in y", impl.Grid{X: 3, Y: 4, Z: 1}, 3, true}, {"one square in each level", impl.Grid{X: 3, Y: 3, Z: 5}, 3, true},
	} {
		n := c.g.X * c.g.Y * c.g.Z
		for _, arcs := range [][][]int{noArcs(n), stepArcs(n, 1), allArcs(n)} {
			for _, pit := range [][]int{nil, {}} {
				if widened, ok := impl.WidenPit(c.g, arcs, pit, c.w); len(widened) != 0 || ok != c.ok {
					t.Error(c.what, c.g, c.w, widened, ok)
				}
			}
		}
	}
}

func TestSumsOfPhases(t *testing.T) {
	for k, g := range allGrids() {
		arcs := arcsOfGrid(g, k)[k%18]
		for at, m := range []impl.Model{mixedModel(g, k), evenModel(g, 100, k, k%5), evenModel(g, 10000, 1000, 4), evenModel(g, 0, 1000, 0)} {
			l := somePits(arcs, k)
			pits := l[(k+at)%len(l)]
			checkSums(t, m, arcs, pits, leastsOf(m, pits, k)...)
		}
	}
}

func TestJoinedPhasesAtTheirEdges(t *testing.T) {
	g := impl.Grid{X: 8, Y: 1, Z: 1}
	pits := firstBlocks(1, 2, 3, 4, 5, 6, 7, 8)
	even, none := evenModel(g, 100, 3, 0), evenModel(g, 0, 3, 0)
	full := evenModel(impl.Grid{X: 8, Y: 5, Z: 3}, 10000, 1000, 4)
	mixed := rowModel([]int{50, 0, 200, 0, 0, 149, 1, 9}, make([]int, 8))
	for _, c := range []struct {
		what  string
		m     impl.Model
		pits  [][]int
		least int
		kept  []int
	}{
		{"each pit", even, pits, 0, []int{0, 1, 2, 3, 4, 5, 6, 7}}, {"each pit just so", even, pits, 100, []int{0, 1, 2, 3, 4, 5, 6, 7}},
		{"two and two", even, pits, 101, []int{1, 3, 5, 7}}, {"two and two just so", even, pits, 200, []int{1, 3, 5, 7}}, {"three, three and the last", even, pits, 300, []int{2, 5, 7}},
		{"seven and the last", even, pits, 700, []int{6, 7}}, {"all together", even, pits, 800, []int{7}}, {"too much", even, pits, 801, []int{7}}, {"the most", even, pits, 2000000, []int{7}},
		{"no tonnes", none, pits, 0, []int{0, 1, 2, 3, 4, 5, 6, 7}}, {"no tonnes and one wanted", none, pits, 1, []int{7}},
		{"one pit", even, pits[:1], 0, []int{0}}, {"one pit with too little", even, pits[:1], 2000000, []int{0}}, {"one pit without tonnes", none, pits[:1], 1, []int{0}},
		{"blocks without tonnes", mixed, pits, 150, []int{2, 6, 7}}, {"blocks without tonnes and less", mixed, pits, 1, []int{0, 2, 5, 6, 7}}, {"blocks without tonnes and more", mixed, pits, 251, []int{5, 7}}, {"blocks without tonnes just so", mixed, pits, 250, []int{2, 7}}, {"nothing wanted of blocks without tonnes", mixed, pits, 0, []int{0, 1, 2, 3, 4, 5, 6, 7}},
		{"more than the most", full, firstBlocks(30, 60, 90, 120), 300000, []int{0, 1, 2, 3}}, {"more than the most", full, firstBlocks(30, 60, 90, 120), 300001, []int{1, 3}}, {"all that there can be", full, firstBlocks(119, 120), 1190000, []int{0, 1}}, {"more than there can be", full, firstBlocks(119, 120), 1190001, []int{1}}, {"much more than there can be", full, firstBlocks(119, 120), 2000000, []int{1}},
	} {
		var want [][]int
		for _, k := range c.kept {
			want = append(want, c.pits[k])
		}
		arcs := noArcs(len(c.m.Tonnes))
		joined, ok := impl.JoinPhases(c.m, arcs, c.pits, c.least)
		checkLists(t, c.what, joined, ok, want)
		checkSums(t, c.m, arcs, c.pits, c.least)
	}
	sums, ok := impl.PhaseSums(full, noArcs(120), firstBlocks(1, 120))
	checkLists(t, "the greatest sums", sums, ok, [][]int{{10000, 10000000}, {1190000, 1190000000}})
}

func TestFilledPits(t *testing.T) {
	for k, arcs := range manyArcs() {
		n, reach := len(arcs), reachByHand(arcs)
		valid := validLists(n)
		for _, lists := range [][][]int{valid, append(valid[1:], mixedList(n, k)), {mixedList(n, k)}, {mixedList(n, k), valid[0], mixedList(n, k)}, {valid[3], valid[2], valid[4]}, {{n / 2}, nil, {n / 3}, {n - 1}, valid[6]}} {
			checkFill(t, arcs, reach, lists)
		}
		for _, pits := range somePits(arcs, k) {
			filled, ok := impl.FillPits(arcs, pits)
			checkLists(t, "pits that are filled already", filled, ok, pits)
		}
	}
}

func TestFilledPitsAtTheirEdges(t *testing.T) {
	fork := [][]int{nil, nil, {0, 1}, {1}, nil}
	for _, c := range []struct {
		what  string
		arcs  [][]int
		lists [][]int
		want  [][]int
	}{
		{"one list", fork, [][]int{{2}}, [][]int{{0, 1, 2}}}, {"one block", noArcs(1), [][]int{{0}}, [][]int{{0}}}, {"the deepest block", stepArcs(120, 1), [][]int{{119}}, firstBlocks(120)},
		{"an empty list first", fork, [][]int{nil, {3}}, [][]int{{1, 3}}}, {"an empty list last", fork, [][]int{{3}, {}}, [][]int{{1, 3}}}, {"an empty list between", fork, [][]int{{3}, {}, {0}}, [][]int{{1, 3}, {0, 1, 3}}},
		{"equal lists", fork, [][]int{{4}, {4}, {4}}, [][]int{{4}}}, {"lists with equal closures", fork, [][]int{{2}, {0, 2}, {1}, {0, 1, 2}}, [][]int{{0, 1, 2}}}, {"a list in a closure", fork, [][]int{{3}, {1}, {4}}, [][]int{{1, 3}, {1, 3, 4}}},
		{"lists that add up", fork, [][]int{{4}, {0}, {2}, {3}}, [][]int{{4}, {0, 4}, {0, 1, 2, 4}, {0, 1, 2, 3, 4}}}, {"a list that comes back", fork, [][]int{{4}, {0}, {4}}, [][]int{{4}, {0, 4}}},
		{"MaxPits lists", noArcs(8), [][]int{{7}, {6}, {5}, {4}, {3}, {2}, {1}, {0}}, [][]int{{7}, {6, 7}, {5, 6, 7}, {4, 5, 6, 7}, {3, 4, 5, 6, 7}, {2, 3, 4, 5, 6, 7}, {1, 2, 3, 4, 5, 6, 7}, {0, 1, 2, 3, 4, 5, 6, 7}}},
		{"MaxPits lists of which one is left", fork, slices.Repeat([][]int{{1}}, 8), [][]int{{1}}}, {"MaxPits lists of which the last one is left", fork, append(make([][]int, 7), []int{4}), [][]int{{4}}},
		{"no list", fork, nil, nil}, {"no list", fork, [][]int{}, nil}, {"one empty list", fork, [][]int{{}}, nil}, {"empty lists", fork, make([][]int, 8), nil},
		{"more than MaxPits lists", noArcs(9), growingLists(9), nil}, {"more than MaxPits equal lists", fork, slices.Repeat([][]int{{1}}, 9), nil}, {"many more than MaxPits lists", noArcs(120), growingLists(120), nil}, {"more than MaxPits empty lists", fork, make([][]int, 9), nil},
	} {
		pits, ok := impl.FillPits(c.arcs, c.lists)
		if !sameArcs(pits, c.want) || ok != (len(c.want) > 0) {
			t.Error(c.what, pits, ok, "not", c.want)
		}
	}
}

func TestWrongArcsHaveNoPhases(t *testing.T) {
	for k, arcs := range wrongArcs() {
		n := len(arcs)
		for _, l := range [][]int{{0}, firstBlocks(n)[0], nil} {
			checkNoPhases(t, arcs, [][]int{l}, false)
			checkNoPhases(t, arcs, [][]int{l, firstBlocks(n)[0]}, false)
			for _, g := range gridsOf(n) {
				checkNoWidePit(t, g, arcs, l, k%3+1)
			}
			if pits, ok := impl.FillPits(arcs, [][]int{l, {0}}); len(pits) != 0 || ok {
				t.Error("FillPits", arcs, l, pits, ok)
			}
		}
		checkNoPhases(t, arcs, nil, false)
		checkNoPhases(t, arcs, make([][]int, 9), false)
	}
}

// Lists that are not strictly increasing or have numbers out of range are no pits, at whatever place they stand.
func TestWrongListsAreNoPits(t *testing.T) {
	for _, n := range []int{1, 2, 3, 20, 120} {
		for k, arcs := range goodArcs(n, n) {
			all := firstBlocks(n)[0]
			for _, wrong := range wrongLists(n) {
				for _, lists := range [][][]int{{wrong}, {{0}, wrong}, {wrong, all}, {wrong, wrong}, {all, wrong}} {
					checkNestedLists(t, arcs, lists, false, true)
					if phases, ok := impl.PhasesOf(arcs, lists); len(phases) != 0 || ok {
						t.Error("PhasesOf", arcs, lists, phases, ok)
					}
					if pits, ok := impl.FillPits(arcs, lists); len(pits) != 0 || ok {
						t.Error("FillPits", arcs, lists, pits, ok)
					}
				}
				for _, g := range gridsOf(n)[:1] {
					checkNoSums(t, evenModel(g, 1, 1, 1), arcs, [][]int{{0}, wrong}, 0)
					checkNoSums(t, evenModel(g, 1, 1, 1), arcs, [][]int{wrong}, k)
					checkNoWidth(t, g, arcs, wrong, k%3+1)
				}
			}
		}
	}
}

// A pit that lacks one block is no closure.
func TestWrongPitsAreNotChanged(t *testing.T) {
	for k, g := range allGrids() {
		arcs := arcsOfGrid(g, k)[k%18]
		for _, l := range listsLackingOne(arcs, someClosures(arcs, reachByHand(arcs))) {
			for w := 1; w <= 3; w++ {
				checkNoWidePit(t, g, arcs, l, w)
			}
			checkNoPhases(t, arcs, [][]int{l}, true)
			checkNoPhases(t, arcs, [][]int{l, firstBlocks(len(arcs))[0]}, true)
		}
	}
}

func TestWrongWidthsAndGrids(t *testing.T) {
	for k, g := range allGrids() {
		n := g.X * g.Y * g.Z
		for _, l := range [][]int{nil, {0}, firstBlocks(n)[0]} {
			for _, w := range append(outside(3), 0) {
				checkNoWidth(t, g, stepArcs(n, 1), l, w)
			}
			for _, other := range []int{n - 1, n + 1, 1, 119, 120} {
				if other != n && other > 0 && other <= 120 {
					checkNoWidePit(t, g, noArcs(other), nil, k%3+1)
					checkNoWidePit(t, g, stepArcs(other, 1), firstBlocks(min(n, other))[0], k%3+1)
				}
			}
		}
	}
	for k, g := range wrongGrids() {
		for _, n := range []int{1, 2, 3, 9, 120} {
			for _, l := range [][]int{nil, {0}, firstBlocks(n)[0]} {
				checkNoWidth(t, g, noArcs(n), l, k%3+1)
			}
		}
	}
}

func TestWrongModelsHaveNoPhases(t *testing.T) {
	for k, m := range wrongModels() {
		for _, n := range []int{1, 12, 120, len(m.Tonnes)} {
			if n > 0 {
				checkNoSums(t, m, noArcs(n), firstBlocks(n), k)
				checkNoSums(t, m, stepArcs(n, 1), firstBlocks(1), 0)
			}
		}
	}
	for k, g := range allGrids() {
		m := mixedModel(g, k)
		n := len(m.Tonnes)
		for _, other := range []int{1, n - 1, n + 1, 120} {
			if other != n && other > 0 && other <= 120 {
				checkNoSums(t, m, noArcs(other), firstBlocks(1), 0)
				checkNoSums(t, m, stepArcs(other, 1), firstBlocks(min(n, other)), k)
			}
		}
		for _, least := range append(outside(2000000), 2000001) {
			checkNoJoin(t, m, noArcs(n), firstBlocks(n), least)
		}
	}
}

// usePhases calls all functions of chapter 12, and writes into everything that they return, so that shared memory shows.
func usePhases(m impl.Model, arcs, pits [][]int, l []int, w, i int) {
	impl.AreNested(arcs, pits)
	impl.PhaseOfBlock(arcs, pits, i)
	impl.IsWide(m.Grid, l, w)
	wide, _ := impl.WideBlocks(m.Grid, l, w)
	spoilList(wide)
	for _, call := range widthFunctions() {
		pit, _ := call(m.Grid, arcs, l, w)
		spoilList(pit)
	}
	spoilLists := func(lists [][]int, ok bool) {
		for _, list := range lists {
			spoilList(list)
		}
		clear(lists[:cap(lists)])
	}
	for _, call := range pitListsFunctions() {
		spoilLists(call(arcs, pits))
	}
	spoilLists(impl.PhaseSums(m, arcs, pits))
	spoilLists(impl.JoinPhases(m, arcs, pits, i))
}

// phaseArguments are models with arcs, pits and lists that belong together, and others that do not.
type phaseArguments struct {
	m          impl.Model
	arcs, pits [][]int
	l          []int
}

func goodPhaseArguments() []phaseArguments {
	var all []phaseArguments
	for k, g := range []impl.Grid{{X: 1, Y: 1, Z: 1}, {X: 3, Y: 1, Z: 2}, {X: 2, Y: 2, Z: 2}, {X: 3, Y: 3, Z: 2}, {X: 8, Y: 5, Z: 3}} {
		for at, arcs := range arcsOfGrid(g, k) {
			closures := someClosures(arcs, reachByHand(arcs))
			for shift, pits := range somePits(arcs, at) {
				all = append(all, phaseArguments{mixedModel(g, at), arcs, pits, closures[(at+shift)%len(closures)]})
			}
			// A pit that is wide already.
			all = append(all, phaseArguments{evenModel(g, 1, 1, 1), arcs, firstBlocks(len(arcs)), validLists(len(arcs))[4]})
		}
	}
	return all
}

func wrongPhaseArguments() []phaseArguments {
	var all []phaseArguments
	models := append(wrongModels(), mixedModel(impl.Grid{X: 5, Y: 4, Z: 1}, 1), mixedModel(impl.Grid{X: 8, Y: 5, Z: 3}, 2), mixedModel(impl.Grid{X: 2, Y: 1, Z: 1}, 3))
	wrong := wrongArcs()
	for k := range 3 * len(wrong) {
		arcs := wrong[k%len(wrong)]
		n := len(arcs)
		if k%3 == 0 {
			arcs = noArcs(n)
		}
		lists := append(wrongLists(n), validLists(max(n, 1))...)
		pits := [][][]int{{lists[k%len(lists)]}, lists[:k%10], {{0}, lists[k%len(lists)]}, growingLists(k % 11), nil, make([][]int, k%10), wrong[(k+1)%len(wrong)]}[k%7]
		all = append(all, phaseArguments{models[k%len(models)], arcs, pits, lists[5*k%len(lists)]})
	}
	return all
}

// Promise 33: no argument makes a function of chapter 12 panic.
func TestPhasesNeverPanic(t *testing.T) {
	numbers := append(edgeInts(), 2, 3, 4, 2000000, 2000001)
	for k, a := range append(goodPhaseArguments(), wrongPhaseArguments()...) {
		w, i := numbers[k%len(numbers)], numbers[(7*k+3)%len(numbers)]
		noPanic(t, fmt.Sprint("a function of arguments by their number ", k, w, i), func() {
			usePhases(a.m, a.arcs, a.pits, a.l, w, i)
			usePhases(a.m, a.arcs, a.pits, a.l, k%5, k%122)
			usePhases(a.m, a.pits, a.arcs, a.l, k%5, k%122)
		})
	}
	pair := evenModel(impl.Grid{X: 2, Y: 1, Z: 1}, 1, 1, 1)
	for _, x := range numbers {
		for _, y := range numbers {
			noPanic(t, fmt.Sprint("a function of the numbers ", x, y), func() {
				for _, lists := range [][][]int{nil, {{x}}, {nil, {x, y}}, {{y}, {x}}, {{0}, {x, y}}, {{x, y}, {0, 1}}, noArcs(1), noArcs(2), allArcs(2)} {
					usePhases(pair, lists, lists, []int{x, y}, x, y)
					usePhases(pair, noArcs(2), lists, []int{x}, 1, y)
					usePhases(pair, allArcs(2), lists, []int{0, 1}, x, y)
					usePhases(impl.Model{Grid: impl.Grid{X: x, Y: y, Z: 1}, Tonnes: []int{x, y}, Grades: []int{y, 1}, Rocks: []int{0, x}}, noArcs(2), [][]int{{0}, {0, 1}}, []int{0, 1}, 2, 1)
				}
			})
		}
	}
}

// Promise 33: no function of chapter 12 changes its arguments or what lies behind them.
func TestPhaseArgumentsStay(t *testing.T) {
	for k, given := range append(goodPhaseArguments(), wrongPhaseArguments()...) {
		for w := 1; w <= 3; w++ {
			m := given.m
			var whole [4][]int
			m.Tonnes, whole[0] = roomy(given.m.Tonnes)
			m.Grades, whole[1] = roomy(given.m.Grades)
			m.Rocks, whole[2] = roomy(given.m.Rocks)
			l, memory := roomy(given.l)
			whole[3] = memory
			arcs, arcsMemory := roomyArcs(given.arcs)
			pits, pitsMemory := roomyArcs(given.pits)
			kept, keptArcs, keptPits := copyArcs(whole[:]), arcsMemory(), pitsMemory()
			usePhases(m, arcs, pits, l, w, k%5*k)
			if !sameArcs(whole[:], kept) || !sameArcs(arcsMemory(), keptArcs) || !sameArcs(pitsMemory(), keptPits) {
				t.Fatal("an argument is changed", given, w)
			}
		}
	}
}

// Promise 33: results are new memory, and no two lists of one result share it.
func TestPhaseResultsAreNew(t *testing.T) {
	for k, a := range goodPhaseArguments() {
		kept := copyArcs(append(append(slices.Clone(a.arcs), a.pits...), a.l))
		for w := 1; w <= 3; w++ {
			checkFresh(t, "WideBlocks", func() []int { l, _ := impl.WideBlocks(a.m.Grid, a.l, w); return l })
			for what, call := range widthFunctions() {
				checkFresh(t, what, func() []int { l, _ := call(a.m.Grid, a.arcs, a.l, w); return l })
			}
		}
		calls := map[string]func() ([][]int, bool){
			"PhaseSums":  func() ([][]int, bool) { return impl.PhaseSums(a.m, a.arcs, a.pits) },
			"JoinPhases": func() ([][]int, bool) { return impl.JoinPhases(a.m, a.arcs, a.pits, k%3*1000) },
		}
		for what, call := range pitListsFunctions() {
			calls[what] = func() ([][]int, bool) { return call(a.arcs, a.pits) }
		}
		for what, call := range calls {
			lists, ok := call()
			want := copyArcs(lists)
			checkApart(t, what, lists, want)
			if again, also := call(); !ok || !also || !sameArcs(again, want) {
				t.Error(what, "a changed result changes a later one", a, again)
			}
		}
		if !sameArcs(append(append(slices.Clone(a.arcs), a.pits...), a.l), kept) {
			t.Fatal("a result shares memory with an argument", a)
		}
	}
}
