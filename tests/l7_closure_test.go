package tests

import (
	"fmt"
	"math"
	"slices"
	"testing"

	"loop.example/g00914/impl"
)

// listFunctions take arcs and a list of blocks, and closureFunctions demand that the list is a closure.
func listFunctions() map[string]func([][]int, []int) ([]int, bool) {
	return map[string]func([][]int, []int) ([]int, bool){"LeastClosure": impl.LeastClosure, "GreatestInside": impl.GreatestInside}
}

func closureFunctions() map[string]func([][]int, []int) ([]int, bool) {
	return map[string]func([][]int, []int) ([]int, bool){"NextBlocks": impl.NextBlocks, "LastBlocks": impl.LastBlocks}
}

func pairFunctions() map[string]func([][]int, []int, []int) ([]int, bool) {
	return map[string]func([][]int, []int, []int) ([]int, bool){"JoinClosures": impl.JoinClosures, "MeetClosures": impl.MeetClosures}
}

func blockFunctions() map[string]func([][]int, int) ([]int, bool) {
	return map[string]func([][]int, int) ([]int, bool){"ConeOf": impl.ConeOf, "BelowOf": impl.BelowOf}
}

func numbersWhere(n int, wanted func(i int) bool) []int {
	var l []int
	for i := range n {
		if wanted(i) {
			l = append(l, i)
		}
	}
	return l
}

// setList has the blocks whose bits are set.
func setList(set int) []int {
	return numbersWhere(63, func(i int) bool { return set>>i&1 == 1 })
}

// arcsWhere leads from i to k wherever that is wanted.
func arcsWhere(n int, wanted func(i, k int) bool) [][]int {
	arcs := make([][]int, n)
	for i := range arcs {
		arcs[i] = numbersWhere(i, func(k int) bool { return wanted(i, k) })
	}
	return arcs
}

// stepArcs are chains: each block needs the one that is so many steps before it.
func stepArcs(n, step int) [][]int {
	return arcsWhere(n, func(i, k int) bool { return i-k == step })
}

func noArcs(n int) [][]int { return make([][]int, n) }

func allArcs(n int) [][]int { return arcsWhere(n, func(i, k int) bool { return true }) }

// mixedArcs have up to so many arcs for each block.
func mixedArcs(n, most, seed int) [][]int {
	next := numbersFrom(uint64(seed))
	arcs := noArcs(n)
	for i := 1; i < n; i++ {
		for range next(most) {
			arcs[i] = with(arcs[i], next(i-1))
		}
	}
	return arcs
}

// goodArcs are chains, trees, stars, layers and mixed arcs of n blocks.
func goodArcs(n, seed int) [][][]int {
	l := [][][]int{
		noArcs(n), allArcs(n), stepArcs(n, 1), stepArcs(n, 2), stepArcs(n, 7),
		arcsWhere(n, func(i, k int) bool { return k == (i-1)/2 }),
		arcsWhere(n, func(i, k int) bool { return k == 0 }),
		arcsWhere(n, func(i, k int) bool { return i == n-1 }),
		arcsWhere(n, func(i, k int) bool { return i >= n/2 && k < n/2 }),
		arcsWhere(n, func(i, k int) bool { return i-k > 1 }),
		arcsWhere(n, func(i, k int) bool { return i-k == 1 || i-k == 5 || i-k == 30 }),
	}
	for k, most := range []int{1, 2, 3, 5, 12, 60} {
		l = append(l, mixedArcs(n, most, 10*seed+k))
	}
	return l
}

// slopeArcs are those of pits with even and with mixed slopes.
func slopeArcs() [][][]int {
	var l [][][]int
	for k, g := range []impl.Grid{{X: 1, Y: 1, Z: 5}, {X: 3, Y: 2, Z: 3}, {X: 5, Y: 1, Z: 4}, {X: 4, Y: 6, Z: 5}, {X: 8, Y: 5, Z: 3}} {
		for _, s := range goodSlopes(g, k)[6:] {
			l = append(l, arcsByHand(g, s))
		}
	}
	return l
}

func copyArcs(arcs [][]int) [][]int {
	c := make([][]int, len(arcs))
	for i, above := range arcs {
		c[i] = slices.Clone(above)
	}
	return c
}

// withArcs has another list of arcs for one block.
func withArcs(arcs [][]int, i int, above ...int) [][]int {
	c := copyArcs(arcs)
	c[i] = above
	return c
}

// areArcsByHand compares each two blocks of a list, and each block with the one that the list is for.
func areArcsByHand(arcs [][]int) bool {
	for i, above := range arcs {
		for p, k := range above {
			if k < 0 || k >= i {
				return false
			}
			for _, later := range above[p+1:] {
				if later <= k {
					return false
				}
			}
		}
	}
	return len(arcs) >= 1 && len(arcs) <= 120
}

// wrongArcs are of no blocks or of too many, or lead from one block to itself, downwards or nowhere, or are not strictly increasing.
func wrongArcs() [][][]int {
	l := [][][]int{
		nil, {}, noArcs(121), stepArcs(121, 1), noArcs(1000),
		{{0}}, {{-1}}, {{1}}, {nil, {1}}, {nil, {2}}, {nil, {-1}}, {nil, {0, 0}}, {nil, {0, 1}}, {nil, {-1, 0}}, {{1}, nil}, {{0}, {0}},
		{nil, nil, {1, 0}}, {nil, nil, {0, 0}}, {nil, nil, {1, 1}}, {nil, nil, {0, 1, 1}}, {nil, nil, {0, 0, 1}}, {nil, nil, {0, 1, 0}}, {nil, nil, {0, 1, 2}}, {nil, {1}, {0, 1}},
	}
	for _, n := range []int{1, 2, 20, 120} {
		for _, base := range [][][]int{noArcs(n), allArcs(n), mixedArcs(n, 5, n)} {
			for _, at := range []int{0, n / 2, n - 1} {
				for _, k := range append([]int{at, at + 1}, outside(at-1)...) {
					if k < 0 || k >= at {
						l = append(l, withArcs(base, at, k), withArcs(base, at, append(slices.Clone(base[at]), k)...), withArcs(base, at, append([]int{k}, base[at]...)...))
					}
				}
				if at > 0 {
					l = append(l, withArcs(base, at, 0, 0), withArcs(base, at, at-1, at-1), withArcs(base, at, append(slices.Clone(base[at]), 0, 0)...))
				}
			}
		}
	}
	return l
}

// reachByHand tells for each two blocks whether the second one is in the cone of the first one: ways over ever more blocks are put together.
func reachByHand(arcs [][]int) [][]bool {
	reach := make([][]bool, len(arcs))
	for i, above := range arcs {
		reach[i] = make([]bool, len(arcs))
		reach[i][i] = true
		for _, k := range above {
			reach[i][k] = true
		}
	}
	for via := range reach {
		for i := range reach {
			for k := range reach {
				reach[i][k] = reach[i][k] || reach[i][via] && reach[via][k]
			}
		}
	}
	return reach
}

func coneByHand(reach [][]bool, i int) []int {
	return numbersWhere(len(reach), func(k int) bool { return reach[i][k] })
}

func leastByHand(reach [][]bool, l []int) []int {
	return numbersWhere(len(reach), func(k int) bool {
		return slices.ContainsFunc(l, func(i int) bool { return reach[i][k] })
	})
}

func greatestByHand(reach [][]bool, l []int) []int {
	return numbersWhere(len(reach), func(i int) bool { return isIn(coneByHand(reach, i), l) })
}

// isIn tells whether each number of a list is one of another list.
func isIn(a, b []int) bool {
	for _, n := range a {
		if !slices.Contains(b, n) {
			return false
		}
	}
	return true
}

// isClosureByHand uses the words of the document. It needs a list of blocks.
func isClosureByHand(arcs [][]int, l []int) bool {
	for _, i := range l {
		if !isIn(arcs[i], l) {
			return false
		}
	}
	return true
}

func without(l []int, i int) []int {
	return slices.DeleteFunc(slices.Clone(l), func(k int) bool { return k == i })
}

func with(l []int, i int) []int {
	joined := append(slices.Clone(l), i)
	slices.Sort(joined)
	return slices.Compact(joined)
}

// nextByHand and lastByHand add or take away one block, and ask whether the list is still a closure.
func nextByHand(arcs [][]int, l []int) []int {
	return numbersWhere(len(arcs), func(i int) bool { return !slices.Contains(l, i) && isClosureByHand(arcs, with(l, i)) })
}

func lastByHand(arcs [][]int, l []int) []int {
	return numbersWhere(len(arcs), func(i int) bool { return slices.Contains(l, i) && isClosureByHand(arcs, without(l, i)) })
}

func reducedByHand(arcs [][]int, reach [][]bool) [][]int {
	return arcsWhere(len(arcs), func(i, k int) bool {
		return slices.Contains(arcs[i], k) && !slices.ContainsFunc(without(arcs[i], k), func(other int) bool { return reach[other][k] })
	})
}

// countByHand looks at all lists of blocks.
func countByHand(arcs [][]int) int {
	needs := make([]int, len(arcs))
	for i, above := range arcs {
		for _, k := range above {
			needs[i] |= 1 << k
		}
	}
	count := 0
	for set := range 1 << len(arcs) {
		closed := 1
		for i, needed := range needs {
			if set>>i&1 == 1 && set&needed != needed {
				closed = 0
				break
			}
		}
		count += closed
	}
	return count
}

func mixedList(n, seed int) []int {
	next := numbersFrom(uint64(seed))
	return numbersWhere(n, func(int) bool { return next(3) > 1 })
}

// someClosures of arcs are cones, what lies in lists, the closure of no blocks, and that of all.
func someClosures(arcs [][]int, reach [][]bool) [][]int {
	n := len(arcs)
	lists := [][]int{nil, {}, validLists(n)[4]}
	for _, i := range []int{0, n / 3, n / 2, n - 1} {
		// The greatest closure without block i leaves out all below it.
		lists = append(lists, coneByHand(reach, i), numbersWhere(n, func(k int) bool { return !reach[k][i] }))
	}
	for _, l := range [][]int{mixedList(n, n), validLists(n)[5]} {
		lists = append(lists, leastByHand(reach, l), greatestByHand(reach, l))
	}
	return lists
}

// listsLackingOne lack one block that another one needs.
func listsLackingOne(arcs [][]int, closures [][]int) [][]int {
	var lists [][]int
	for _, closure := range closures {
		for _, i := range closure {
			if l := without(closure, i); !isClosureByHand(arcs, l) {
				lists = append(lists, l)
				break
			}
		}
	}
	return lists
}

func TestClosureExample(t *testing.T) {
	arcs := [][]int{nil, nil, {0, 1}}
	l, ok := impl.ConeOf(arcs, 2)
	checkList(t, "cone", l, ok, []int{0, 1, 2})
	l, ok = impl.NextBlocks(arcs, nil)
	checkList(t, "next", l, ok, []int{0, 1})
	if n, ok := impl.CountClosures(arcs); n != 5 || !ok {
		t.Error("count", n, ok)
	}
	l, ok = impl.BelowOf(arcs, 1)
	checkList(t, "below", l, ok, []int{1, 2})
	l, ok = impl.LeastClosure(arcs, []int{2})
	checkList(t, "least closure", l, ok, []int{0, 1, 2})
	l, ok = impl.GreatestInside(arcs, []int{1, 2})
	checkList(t, "greatest inside", l, ok, []int{1})
	l, ok = impl.LastBlocks(arcs, []int{0, 1})
	checkList(t, "last", l, ok, []int{0, 1})
	if n, ok := impl.ValueOf([]int{3, -5, 10}, []int{0, 2}); n != 13 || !ok {
		t.Error("value", n, ok)
	}
}

func TestArcLimits(t *testing.T) {
	if impl.MaxCounted != 20 {
		t.Error("MaxCounted", impl.MaxCounted)
	}
	for n := 1; n <= 120; n++ {
		for _, arcs := range goodArcs(n, n) {
			if !impl.AreArcs(arcs) || !areArcsByHand(arcs) {
				t.Fatal("arcs are refused", arcs)
			}
		}
	}
	for _, arcs := range slopeArcs() {
		if !impl.AreArcs(arcs) || !areArcsByHand(arcs) {
			t.Error("arcs of slopes are refused", arcs)
		}
	}
	for _, arcs := range wrongArcs() {
		if impl.AreArcs(arcs) || areArcsByHand(arcs) {
			t.Error("no arcs, but taken", arcs)
		}
	}
	for n := range 125 {
		for _, arcs := range [][][]int{noArcs(n), allArcs(n), stepArcs(n, 1)} {
			if impl.AreArcs(arcs) != (n >= 1 && n <= 120) {
				t.Error("AreArcs is wrong about so many blocks:", n)
			}
		}
	}
}

// All arcs of up to three blocks, with lists of up to two numbers, of which some are no blocks.
func TestArcsOfShortLists(t *testing.T) {
	lists := [][]int{nil}
	for a := -1; a <= 3; a++ {
		lists = append(lists, []int{a})
		for b := -1; b <= 3; b++ {
			lists = append(lists, []int{a, b})
		}
	}
	for _, first := range lists {
		for _, second := range lists {
			for _, third := range lists {
				arcs := [][]int{first, second, third}
				for n := range 4 {
					if impl.AreArcs(arcs[:n]) != areArcsByHand(arcs[:n]) {
						t.Fatal("AreArcs is wrong about", arcs[:n])
					}
				}
			}
		}
	}
}

// eachArcs has all arcs of n blocks.
func eachArcs(n int, see func([][]int)) {
	for choice := range 1 << (n * (n - 1) / 2) {
		at := -1
		see(arcsWhere(n, func(i, k int) bool { at++; return choice>>at&1 == 1 }))
	}
}

// checkClosureList demands what the document says of a list of blocks of few blocks, where all closures are known as sets of bits.
func checkClosureList(t *testing.T, arcs [][]int, closures []int, set int) {
	t.Helper()
	l := setList(set)
	closed := slices.Contains(closures, set)
	if got, ok := impl.IsClosure(arcs, l); got != closed || !ok {
		t.Error("IsClosure", arcs, l, got, ok)
	}
	least, greatest := 1<<len(arcs)-1, 0
	for _, closure := range closures {
		if closure&set == set {
			least &= closure
		}
		if closure&^set == 0 {
			greatest |= closure
		}
	}
	got, ok := impl.LeastClosure(arcs, l)
	checkList(t, fmt.Sprint("least closure of ", l, arcs), got, ok, setList(least))
	got, ok = impl.GreatestInside(arcs, l)
	checkList(t, fmt.Sprint("greatest closure in ", l, arcs), got, ok, setList(greatest))
	if closed {
		got, ok = impl.NextBlocks(arcs, l)
		checkList(t, fmt.Sprint("next after ", l, arcs), got, ok, numbersWhere(len(arcs), func(i int) bool {
			return set>>i&1 == 0 && slices.Contains(closures, set|1<<i)
		}))
		got, ok = impl.LastBlocks(arcs, l)
		checkList(t, fmt.Sprint("last of ", l, arcs), got, ok, numbersWhere(len(arcs), func(i int) bool {
			return set>>i&1 == 1 && slices.Contains(closures, set&^(1<<i))
		}))
		return
	}
	for what, call := range closureFunctions() {
		if got, ok := call(arcs, l); len(got) != 0 || ok {
			t.Error(what, "of no closure", arcs, l, got, ok)
		}
	}
}

func closureSets(arcs [][]int) []int {
	return numbersWhere(1<<len(arcs), func(set int) bool { return isClosureByHand(arcs, setList(set)) })
}

// Promise 7 for all arcs of up to five blocks and all lists of these blocks.
func TestClosuresOfFewBlocks(t *testing.T) {
	for n := 1; n <= 5; n++ {
		eachArcs(n, func(arcs [][]int) {
			closures := closureSets(arcs)
			for set := range 1 << n {
				checkClosureList(t, arcs, closures, set)
			}
			if count, ok := impl.CountClosures(arcs); count != len(closures) || !ok {
				t.Error("count", arcs, count, ok, "not", len(closures))
			}
			for i := range n {
				cone, ok := impl.ConeOf(arcs, i)
				least, _ := impl.LeastClosure(arcs, []int{i})
				checkList(t, fmt.Sprint("cone of ", i, arcs), cone, ok, least)
			}
		})
	}
}

func TestPairsOfClosures(t *testing.T) {
	for n := 1; n <= 4; n++ {
		eachArcs(n, func(arcs [][]int) {
			closures := closureSets(arcs)
			for a := range 1 << n {
				for b := range 1 << n {
					joined, ok := impl.JoinClosures(arcs, setList(a), setList(b))
					met, also := impl.MeetClosures(arcs, setList(a), setList(b))
					if slices.Contains(closures, a) && slices.Contains(closures, b) {
						checkList(t, fmt.Sprint("joined ", arcs, a, b), joined, ok, setList(a|b))
						checkList(t, fmt.Sprint("met ", arcs, a, b), met, also, setList(a&b))
					} else if len(joined) != 0 || ok || len(met) != 0 || also {
						t.Error("lists that are no closures", arcs, setList(a), setList(b), joined, ok, met, also)
					}
				}
			}
		})
	}
}

// checkClosures demands what the document says of the functions of lists, for as many blocks as there are.
func checkClosures(t *testing.T, arcs [][]int, seed int) {
	t.Helper()
	n, reach := len(arcs), reachByHand(arcs)
	closures := someClosures(arcs, reach)
	lists := append(append(validLists(n), closures...), listsLackingOne(arcs, closures)...)
	for _, l := range append(lists, mixedList(n, seed), mixedList(n, seed+1)) {
		closed := isClosureByHand(arcs, l)
		if got, ok := impl.IsClosure(arcs, l); got != closed || !ok {
			t.Error("IsClosure", arcs, l, got, ok)
		}
		got, ok := impl.LeastClosure(arcs, l)
		checkList(t, "least closure", got, ok, leastByHand(reach, l))
		got, ok = impl.GreatestInside(arcs, l)
		checkList(t, "greatest inside", got, ok, greatestByHand(reach, l))
		for what, call := range closureFunctions() {
			if got, ok := call(arcs, l); !closed && (len(got) != 0 || ok) {
				t.Error(what, "of no closure", arcs, l, got, ok)
			}
		}
	}
	for k, l := range closures {
		next, ok := impl.NextBlocks(arcs, l)
		checkList(t, "next", next, ok, nextByHand(arcs, l))
		last, ok := impl.LastBlocks(arcs, l)
		checkList(t, "last", last, ok, lastByHand(arcs, l))
		for _, other := range closures[:k+1] {
			checkPair(t, arcs, l, other)
			checkPair(t, arcs, other, l)
		}
	}
}

func checkPair(t *testing.T, arcs [][]int, a, b []int) {
	t.Helper()
	joined, ok := impl.JoinClosures(arcs, a, b)
	checkList(t, "joined", joined, ok, numbersWhere(len(arcs), func(i int) bool { return slices.Contains(a, i) || slices.Contains(b, i) }))
	met, ok := impl.MeetClosures(arcs, a, b)
	checkList(t, "met", met, ok, numbersWhere(len(arcs), func(i int) bool { return slices.Contains(a, i) && slices.Contains(b, i) }))
	if !isClosureByHand(arcs, joined) || !isClosureByHand(arcs, met) {
		t.Error("no closures", arcs, a, b, joined, met)
	}
}

func manyArcs() [][][]int {
	l := slopeArcs()
	for _, n := range []int{1, 2, 3, 5, 8, 19, 20, 21, 60, 119, 120} {
		l = append(l, goodArcs(n, n)...)
	}
	return l
}

func TestClosuresOfManyBlocks(t *testing.T) {
	for k, arcs := range manyArcs() {
		checkClosures(t, arcs, k)
	}
}

// Promise 7: cones are closures that have their block and lie in each closure that has it; a block is in a cone if the other one is below it.
func TestCones(t *testing.T) {
	for _, arcs := range manyArcs() {
		n, reach := len(arcs), reachByHand(arcs)
		closures := someClosures(arcs, reach)
		for i := range n {
			cone, ok := impl.ConeOf(arcs, i)
			checkList(t, "cone", cone, ok, coneByHand(reach, i))
			below, ok := impl.BelowOf(arcs, i)
			checkList(t, "below", below, ok, numbersWhere(n, func(k int) bool { return reach[k][i] }))
			if least, ok := impl.LeastClosure(arcs, []int{i}); !slices.Equal(least, cone) || !ok {
				t.Error("the cone is not the least closure", arcs, i, cone, least, ok)
			}
			if closed, ok := impl.IsClosure(arcs, cone); !closed || !ok {
				t.Error("the cone is no closure", arcs, i, cone)
			}
			for _, closure := range closures {
				if slices.Contains(closure, i) && !isIn(cone, closure) {
					t.Error("the cone is not in a closure", arcs, i, cone, closure)
				}
			}
			if last, ok := impl.LastBlocks(arcs, cone); !slices.Equal(last, []int{i}) || !ok {
				t.Error("the block is not the last one of its cone", arcs, i, last, ok)
			}
		}
	}
}

// Promise 7: greatest closures lie inside their lists and have all closures that do, and least ones have their lists.
func TestGreatestAndLeastClosures(t *testing.T) {
	for seed, arcs := range manyArcs() {
		n := len(arcs)
		for k, l := range append(validLists(n), mixedList(n, seed), mixedList(n, seed+100)) {
			inside, ok := impl.GreatestInside(arcs, l)
			closed, _ := impl.IsClosure(arcs, inside)
			if !ok || !closed || !isIn(inside, l) {
				t.Error("greatest closure inside", arcs, l, inside, ok)
			}
			least, ok := impl.LeastClosure(arcs, l)
			closed, _ = impl.IsClosure(arcs, least)
			if !ok || !closed || !isIn(l, least) {
				t.Error("least closure", arcs, l, least, ok)
			}
			for i := k % 5; i < n; i += 5 {
				cone, _ := impl.ConeOf(arcs, i)
				if isIn(cone, l) != slices.Contains(inside, i) {
					t.Error("a cone inside", arcs, l, i, cone, inside)
				}
				if slices.Contains(l, i) && !isIn(cone, least) {
					t.Error("a cone that is needed", arcs, l, i, cone, least)
				}
			}
		}
	}
}

// All blocks can be mined one after the other, and be put back in the same way.
func TestMiningToTheEnd(t *testing.T) {
	for k, arcs := range manyArcs() {
		next := numbersFrom(uint64(k))
		var pit []int
		for step := range arcs {
			able, ok := impl.NextBlocks(arcs, pit)
			if !ok || len(able) == 0 {
				t.Fatal("nothing is left to be mined", arcs, pit, able, ok)
			}
			i := able[next(len(able)-1)]
			pit = with(pit, i)
			last, ok := impl.LastBlocks(arcs, pit)
			if !ok || !slices.Contains(last, i) || len(pit) != step+1 {
				t.Fatal("a block just mined is not among the last", arcs, pit, i, last, ok)
			}
		}
		able, ok := impl.NextBlocks(arcs, pit)
		checkList(t, "next after all", able, ok, nil)
	}
}

func TestClosuresAtTheirEdges(t *testing.T) {
	fork := [][]int{nil, {0}, {0}, {1, 2}, nil}
	for _, c := range []struct {
		what    string
		arcs    [][]int
		l       []int
		closed  bool
		least   []int
		inside  []int
		next    []int
		last    []int
		cone    int
		isCone  []int
		isBelow []int
	}{
		{"one block, none mined", [][]int{nil}, nil, true, nil, nil, []int{0}, nil, 0, []int{0}, []int{0}},
		{"one block, mined", [][]int{{}}, []int{0}, true, []int{0}, []int{0}, nil, []int{0}, 0, []int{0}, []int{0}},
		{"chain, none", [][]int{nil, {0}, {1}}, []int{}, true, nil, nil, []int{0}, nil, 2, []int{0, 1, 2}, []int{2}},
		{"chain, first", [][]int{nil, {0}, {1}}, []int{0}, true, []int{0}, []int{0}, []int{1}, []int{0}, 0, []int{0}, []int{0, 1, 2}},
		{"chain, two", [][]int{nil, {0}, {1}}, []int{0, 1}, true, []int{0, 1}, []int{0, 1}, []int{2}, []int{1}, 1, []int{0, 1}, []int{1, 2}},
		{"chain, all", [][]int{nil, {0}, {1}}, []int{0, 1, 2}, true, []int{0, 1, 2}, []int{0, 1, 2}, nil, []int{2}, 2, []int{0, 1, 2}, []int{2}},
		{"chain, last alone", [][]int{nil, {0}, {1}}, []int{2}, false, []int{0, 1, 2}, nil, nil, nil, 1, []int{0, 1}, []int{1, 2}},
		{"chain, middle missing", [][]int{nil, {0}, {1}}, []int{0, 2}, false, []int{0, 1, 2}, []int{0}, nil, nil, 0, []int{0}, []int{0, 1, 2}},
		{"chain, first missing", [][]int{nil, {0}, {1}}, []int{1, 2}, false, []int{0, 1, 2}, nil, nil, nil, 2, []int{0, 1, 2}, []int{2}},
		{"no arcs", [][]int{nil, nil, nil}, []int{1}, true, []int{1}, []int{1}, []int{0, 2}, []int{1}, 1, []int{1}, []int{1}},
		{"fork, none", fork, nil, true, nil, nil, []int{0, 4}, nil, 3, []int{0, 1, 2, 3}, []int{3}},
		{"fork, one side", fork, []int{0, 1}, true, []int{0, 1}, []int{0, 1}, []int{2, 4}, []int{1}, 1, []int{0, 1}, []int{1, 3}},
		{"fork, both sides", fork, []int{0, 1, 2}, true, []int{0, 1, 2}, []int{0, 1, 2}, []int{3, 4}, []int{1, 2}, 0, []int{0}, []int{0, 1, 2, 3}},
		{"fork, one side missing", fork, []int{0, 1, 3, 4}, false, []int{0, 1, 2, 3, 4}, []int{0, 1, 4}, nil, nil, 4, []int{4}, []int{4}},
		{"fork, root missing", fork, []int{1, 2, 3}, false, []int{0, 1, 2, 3}, nil, nil, nil, 2, []int{0, 2}, []int{2, 3}},
		{"fork, all", fork, []int{0, 1, 2, 3, 4}, true, []int{0, 1, 2, 3, 4}, []int{0, 1, 2, 3, 4}, nil, []int{3, 4}, 3, []int{0, 1, 2, 3}, []int{3}},
	} {
		if closed, ok := impl.IsClosure(c.arcs, c.l); closed != c.closed || !ok {
			t.Error(c.what, "IsClosure", closed, ok)
		}
		got, ok := impl.LeastClosure(c.arcs, c.l)
		checkList(t, c.what+": least closure", got, ok, c.least)
		got, ok = impl.GreatestInside(c.arcs, c.l)
		checkList(t, c.what+": greatest inside", got, ok, c.inside)
		got, ok = impl.ConeOf(c.arcs, c.cone)
		checkList(t, c.what+": cone", got, ok, c.isCone)
		got, ok = impl.BelowOf(c.arcs, c.cone)
		checkList(t, c.what+": below", got, ok, c.isBelow)
		next, ok := impl.NextBlocks(c.arcs, c.l)
		last, also := impl.LastBlocks(c.arcs, c.l)
		if ok != c.closed || also != c.closed || !slices.Equal(next, c.next) || !slices.Equal(last, c.last) {
			t.Error(c.what, "next and last", next, ok, last, also)
		}
	}
}

func TestJoinsAndMeetsAtTheirEdges(t *testing.T) {
	arcs := [][]int{nil, {0}, {0}, {1, 2}, nil, {4}}
	all := []int{0, 1, 2, 3, 4, 5}
	for _, c := range []struct {
		what              string
		a, b, joined, met []int
		ok                bool
	}{
		{"both empty", nil, []int{}, nil, nil, true},
		{"one empty", nil, []int{0, 1}, []int{0, 1}, nil, true},
		{"equal", []int{0, 2}, []int{0, 2}, []int{0, 2}, []int{0, 2}, true},
		{"one in the other", []int{0, 1, 2, 3}, []int{0, 1}, []int{0, 1, 2, 3}, []int{0, 1}, true},
		{"nothing in common", []int{0, 2}, []int{4, 5}, []int{0, 2, 4, 5}, nil, true},
		{"something in common", []int{0, 1, 4}, []int{0, 2, 4}, []int{0, 1, 2, 4}, []int{0, 4}, true},
		{"all and none", all, nil, all, nil, true},
		{"all and some", all, []int{4}, all, []int{4}, true},
		{"all twice", all, all, all, all, true},
		{"no closure and nothing", []int{1}, nil, nil, nil, false},
		{"nothing and no closure", nil, []int{5}, nil, nil, false},
		{"no closure and all", []int{0, 3}, all, nil, nil, false},
		{"closures only together", []int{0, 1, 2}, []int{3}, nil, nil, false},
		{"the same that is no closure", []int{3}, []int{3}, nil, nil, false},
		{"equal blocks", []int{0, 0}, []int{0}, nil, nil, false},
		{"another order", []int{0}, []int{4, 0}, nil, nil, false},
		{"no block", []int{0}, []int{6}, nil, nil, false},
		{"a negative block", []int{-1}, []int{0}, nil, nil, false},
	} {
		for _, pair := range [][2][]int{{c.a, c.b}, {c.b, c.a}} {
			joined, ok := impl.JoinClosures(arcs, pair[0], pair[1])
			met, also := impl.MeetClosures(arcs, pair[0], pair[1])
			if ok != c.ok || also != c.ok || !slices.Equal(joined, c.joined) || !slices.Equal(met, c.met) {
				t.Error(c.what, joined, ok, met, also)
			}
		}
	}
}

func TestClosureCounts(t *testing.T) {
	fan := func(n int) [][]int { return arcsWhere(n, func(i, k int) bool { return i == n-1 }) }
	star := func(n int) [][]int { return arcsWhere(n, func(i, k int) bool { return k == 0 }) }
	twoChains := arcsWhere(20, func(i, k int) bool { return i-k == 2 })
	layers := arcsWhere(20, func(i, k int) bool { return i >= 10 && k < 10 })
	for _, c := range []struct {
		what string
		arcs [][]int
		want int
	}{
		{"one block", noArcs(1), 2}, {"two blocks", noArcs(2), 4}, {"a pair", stepArcs(2, 1), 3},
		{"19 without arcs", noArcs(19), 524288}, {"20 without arcs", noArcs(20), 1048576},
		{"chain", stepArcs(20, 1), 21}, {"all arcs", allArcs(20), 21}, {"all arcs of ten", allArcs(10), 11},
		{"two chains", twoChains, 121}, {"layers", layers, 2047},
		{"a block that needs all", fan(20), 524289}, {"a block that all need", star(20), 524289},
		{"ten pairs", arcsWhere(20, func(i, k int) bool { return i-k == 10 }), 59049},
		{"pairs side by side", arcsWhere(20, func(i, k int) bool { return i%2 == 1 && i-k == 1 }), 59049},
	} {
		if n, ok := impl.CountClosures(c.arcs); n != c.want || !ok {
			t.Error(c.what, n, ok, "not", c.want)
		}
	}
	for n := 1; n <= 120; n++ {
		for _, arcs := range goodArcs(n, n) {
			count, ok := impl.CountClosures(arcs)
			if n > 20 && (count != 0 || ok) {
				t.Error("too many blocks are counted", n, count, ok)
			}
			if n <= 14 {
				if want := countByHand(arcs); count != want || !ok {
					t.Error("count", arcs, count, ok, "not", want)
				}
			}
		}
	}
	for seed, most := range []int{1, 2, 3, 4, 6, 10, 40} {
		arcs := mixedArcs(20, most, seed)
		if count, ok := impl.CountClosures(arcs); count != countByHand(arcs) || !ok {
			t.Error("count", arcs, count, ok, "not", countByHand(arcs))
		}
	}
}

// checkReduced demands that the cones stay the same, and that no arc that is left can be spared.
func checkReduced(t *testing.T, arcs [][]int) {
	t.Helper()
	reach := reachByHand(arcs)
	reduced, ok := impl.ReducedArcs(arcs)
	if !ok || !sameArcs(reduced, reducedByHand(arcs, reach)) {
		t.Fatal("reduced arcs", arcs, reduced, ok)
	}
	if !impl.AreArcs(reduced) {
		t.Fatal("reduced arcs are no arcs", arcs, reduced)
	}
	for i := range arcs {
		cone, _ := impl.ConeOf(arcs, i)
		if same, ok := impl.ConeOf(reduced, i); !slices.Equal(same, cone) || !ok {
			t.Error("another cone", arcs, reduced, i, same, cone)
		}
		for _, k := range reduced[i] {
			if len(arcs) <= 20 && slices.Contains(coneByHand(reachByHand(withArcs(reduced, i, without(reduced[i], k)...)), i), k) {
				t.Error("an arc could be spared", arcs, reduced, i, k)
			}
		}
	}
	if again, ok := impl.ReducedArcs(reduced); !sameArcs(again, reduced) || !ok {
		t.Error("reduced arcs are reduced", reduced, again, ok)
	}
}

func TestReducedArcs(t *testing.T) {
	for n := 1; n <= 5; n++ {
		eachArcs(n, func(arcs [][]int) { checkReduced(t, arcs) })
	}
	for _, arcs := range manyArcs() {
		checkReduced(t, arcs)
	}
}

func TestReducedArcsAtTheirEdges(t *testing.T) {
	for _, c := range []struct {
		what       string
		arcs, want [][]int
	}{
		{"one block", [][]int{nil}, [][]int{nil}},
		{"the example", [][]int{nil, nil, {0, 1}}, [][]int{nil, nil, {0, 1}}},
		{"all of three", allArcs(3), [][]int{nil, {0}, {1}}},
		{"all of MaxBlocks", allArcs(120), stepArcs(120, 1)},
		{"chain of MaxBlocks", stepArcs(120, 1), stepArcs(120, 1)},
		{"none of MaxBlocks", noArcs(120), noArcs(120)},
		{"over one block", [][]int{nil, {0}, {0, 1}, {0, 2}}, [][]int{nil, {0}, {1}, {2}}},
		{"a long way round", [][]int{nil, {0}, {1}, {2}, {0, 3}}, [][]int{nil, {0}, {1}, {2}, {3}}},
		{"a way over a block that is not in the list", [][]int{nil, {0}, {1}, {0, 2}}, [][]int{nil, {0}, {1}, {2}}},
		{"a way over an arc that is spared itself", [][]int{nil, {0}, {0, 1}, {0, 1, 2}}, [][]int{nil, {0}, {1}, {2}}},
		{"two ways", [][]int{nil, {0}, {0}, {0, 1, 2}}, [][]int{nil, {0}, {0}, {1, 2}}},
		{"some stay", [][]int{nil, nil, {0}, {0, 1, 2}}, [][]int{nil, nil, {0}, {1, 2}}},
	} {
		if got, ok := impl.ReducedArcs(c.arcs); !sameArcs(got, c.want) || !ok {
			t.Error(c.what, got, ok, "not", c.want)
		}
	}
}

func TestValuesOfLists(t *testing.T) {
	for n := 1; n <= 120; n++ {
		for k, values := range goodValues(n) {
			for _, l := range append(validLists(n), mixedList(n, k)) {
				want := 0
				for _, i := range l {
					want += values[i]
				}
				if sum, ok := impl.ValueOf(values, l); sum != want || !ok {
					t.Error("value", values, l, sum, ok, "not", want)
				}
			}
		}
	}
	every := validLists(120)[4]
	for _, c := range []struct {
		what      string
		values, l []int
		want      int
		ok        bool
	}{
		{"no blocks", []int{7}, nil, 0, true},
		{"greatest", []int{1000000}, []int{0}, 1000000, true},
		{"least", []int{-1000000}, []int{0}, -1000000, true},
		{"greatest of all", slices.Repeat([]int{1000000}, 120), every, 120000000, true},
		{"least of all", slices.Repeat([]int{-1000000}, 120), every, -120000000, true},
		{"no blocks of MaxBlocks", slices.Repeat([]int{1000000}, 120), []int{}, 0, true},
		{"first and last", []int{5, 1, 1, -9}, []int{0, 3}, -4, true},
		{"beyond the greatest", []int{1000001}, []int{0}, 0, false},
		{"beyond the least", []int{-1000001}, []int{0}, 0, false},
		{"beyond the greatest, not asked for", []int{1, 1000001}, []int{0}, 0, false},
		{"beyond the least, no blocks", []int{-1000001, 1}, nil, 0, false},
		{"no values", nil, nil, 0, false},
		{"no values, but a block", []int{}, []int{0}, 0, false},
		{"one value more", make([]int, 121), []int{0}, 0, false},
		{"a block beyond the last", []int{1, 2}, []int{2}, 0, false},
		{"a block beyond the last of MaxBlocks", make([]int, 120), []int{120}, 0, false},
		{"a negative block", []int{1, 2}, []int{-1}, 0, false},
		{"equal blocks", []int{1, 2}, []int{1, 1}, 0, false},
		{"another order", []int{1, 2}, []int{1, 0}, 0, false},
	} {
		if sum, ok := impl.ValueOf(c.values, c.l); sum != c.want || ok != c.ok {
			t.Error(c.what, sum, ok)
		}
	}
	for _, values := range wrongValues() {
		for _, l := range [][]int{nil, {0}, {0, 1}} {
			if sum, ok := impl.ValueOf(values, l); sum != 0 || ok {
				t.Error("value of no values", values, l, sum, ok)
			}
		}
	}
	for _, n := range []int{1, 2, 60, 120} {
		for _, l := range wrongLists(n) {
			if sum, ok := impl.ValueOf(mixedValues(n, n), l); sum != 0 || ok {
				t.Error("value of no list", n, l, sum, ok)
			}
		}
	}
}

// Values of joined and met closures add up to those of both.
func TestValuesAddUp(t *testing.T) {
	for k, arcs := range manyArcs() {
		values := mixedValues(len(arcs), k)
		value := func(l []int, ok bool) int {
			sum, also := impl.ValueOf(values, l)
			if !ok || !also {
				t.Error("no value", l, ok, also)
			}
			return sum
		}
		closures := someClosures(arcs, reachByHand(arcs))
		for n, a := range closures[1:] {
			b := closures[n]
			joined, met := value(impl.JoinClosures(arcs, a, b)), value(impl.MeetClosures(arcs, a, b))
			if joined+met != value(a, true)+value(b, true) {
				t.Error("values do not add up", arcs, values, a, b, joined, met)
			}
		}
	}
}

// checkNoList demands nothing from all functions of arcs and a list.
func checkNoList(t *testing.T, arcs [][]int, l, good []int) {
	t.Helper()
	if closed, ok := impl.IsClosure(arcs, l); closed || ok {
		t.Error("IsClosure", arcs, l, closed, ok)
	}
	for _, functions := range []map[string]func([][]int, []int) ([]int, bool){listFunctions(), closureFunctions()} {
		for what, call := range functions {
			if got, ok := call(arcs, l); len(got) != 0 || ok {
				t.Error(what, arcs, l, got, ok)
			}
		}
	}
	for what, call := range pairFunctions() {
		for _, pair := range [][2][]int{{l, l}, {l, good}, {good, l}} {
			if got, ok := call(arcs, pair[0], pair[1]); len(got) != 0 || ok {
				t.Error(what, arcs, pair, got, ok)
			}
		}
	}
}

func TestWrongArcsGiveNothing(t *testing.T) {
	for _, arcs := range wrongArcs() {
		n := len(arcs)
		for _, l := range [][]int{nil, {0}, {max(0, n-1)}, {0, 0}, {-1}, {n}} {
			checkNoList(t, arcs, l, nil)
		}
		for what, call := range blockFunctions() {
			for _, i := range []int{0, n - 1, n, -1, math.MinInt, math.MaxInt} {
				if got, ok := call(arcs, i); len(got) != 0 || ok {
					t.Error(what, arcs, i, got, ok)
				}
			}
		}
		if count, ok := impl.CountClosures(arcs); count != 0 || ok {
			t.Error("count", arcs, count, ok)
		}
		if reduced, ok := impl.ReducedArcs(arcs); len(reduced) != 0 || ok {
			t.Error("reduced", arcs, reduced, ok)
		}
	}
}

func TestWrongBlocksAndListsOfArcs(t *testing.T) {
	for _, n := range []int{1, 2, 3, 20, 21, 120} {
		for _, arcs := range goodArcs(n, n) {
			for _, l := range wrongLists(n) {
				checkNoList(t, arcs, l, nil)
				checkNoList(t, arcs, l, validLists(n)[4])
			}
			for what, call := range blockFunctions() {
				for _, i := range outside(n - 1) {
					if got, ok := call(arcs, i); len(got) != 0 || ok {
						t.Error(what, arcs, i, got, ok)
					}
				}
				for _, i := range []int{0, n - 1} {
					if got, ok := call(arcs, i); !slices.Contains(got, i) || !ok {
						t.Error(what, arcs, i, got, ok)
					}
				}
			}
		}
	}
}

// useArcs calls all functions of chapter 7, and writes into everything that they return, so that shared memory shows.
func useArcs(arcs [][]int, values, a, b []int, i int) {
	impl.AreArcs(arcs)
	impl.IsClosure(arcs, a)
	impl.CountClosures(arcs)
	impl.ValueOf(values, a)
	for _, call := range blockFunctions() {
		l, _ := call(arcs, i)
		spoilList(l)
	}
	for _, functions := range []map[string]func([][]int, []int) ([]int, bool){listFunctions(), closureFunctions()} {
		for _, call := range functions {
			l, _ := call(arcs, a)
			spoilList(l)
		}
	}
	for _, call := range pairFunctions() {
		l, _ := call(arcs, a, b)
		spoilList(l)
	}
	reduced, _ := impl.ReducedArcs(arcs)
	for _, l := range reduced {
		spoilList(l)
	}
	clear(reduced[:cap(reduced)])
}

// Promise 33: no argument makes a function of chapter 7 panic.
func TestClosuresNeverPanic(t *testing.T) {
	all := wrongArcs()
	for _, n := range []int{1, 3, 20, 21, 120} {
		all = append(all, goodArcs(n, n)...)
	}
	numbers := edgeInts()
	values := append(wrongValues(), goodValues(3)...)
	for k, arcs := range all {
		n := len(arcs)
		lists := append(append(wrongLists(n), validLists(max(n, 1))...), wrongLists(120)[:12]...)
		for shift := range 6 {
			at := 6*k + shift
			a, b := lists[at%len(lists)], lists[(5*at+1)%len(lists)]
			noPanic(t, fmt.Sprint("a function of arcs by their number ", k, a, b), func() {
				useArcs(arcs, values[at%len(values)], a, b, numbers[at%len(numbers)])
				useArcs(arcs, a, b, a, at%121)
			})
		}
	}
	for _, x := range numbers {
		for _, y := range numbers {
			noPanic(t, fmt.Sprint("a function of the numbers ", x, y), func() {
				for _, arcs := range [][][]int{nil, {{x}}, {nil, {x, y}}, {{y}, {x}}, noArcs(1), allArcs(3), stepArcs(120, 1)} {
					useArcs(arcs, []int{x, y}, []int{x, y}, []int{y}, x)
				}
			})
		}
	}
}

// roomyArcs gives arcs of which each list has room behind its length, and a function that copies all their memory.
func roomyArcs(given [][]int) ([][]int, func() [][]int) {
	var arcs, whole [][]int
	for _, above := range given {
		list, memory := roomy(above)
		arcs, whole = append(arcs, list), append(whole, memory)
	}
	n := len(arcs)
	room := append(arcs, []int{-93, -92})
	return room[:n], func() [][]int { return append(copyArcs(whole), copyArcs(room)...) }
}

// Promise 33: no function of chapter 7 changes its arguments or what lies behind them.
func TestClosureArgumentsStay(t *testing.T) {
	all := wrongArcs()[:200]
	for _, n := range []int{1, 3, 20, 21, 120} {
		all = append(all, goodArcs(n, n)...)
	}
	for k, given := range all {
		lists := append(validLists(max(1, len(given))), wrongLists(len(given))...)
		if areArcsByHand(given) {
			lists = append(lists, someClosures(given, reachByHand(given))...)
		}
		for at, l := range lists {
			// A closure joined with no blocks, or met with all, is itself.
			other := [][]int{l, nil, validLists(len(given))[4]}[(at+k)%3]
			arcs, memory := roomyArcs(given)
			values, wholeValues := roomy(mixedValues(len(given), k))
			a, wholeA := roomy(l)
			b, wholeB := roomy(other)
			before, kept := memory(), copyArcs([][]int{wholeValues, wholeA, wholeB})
			useArcs(arcs, values, a, b, at%max(1, len(given)))
			useArcs(arcs, values, b, a, at%max(1, len(given)))
			if !sameArcs(memory(), before) || !sameArcs([][]int{wholeValues, wholeA, wholeB}, kept) {
				t.Fatal("an argument is changed", given, l, other)
			}
		}
	}
}

// Promise 33: results are new memory, and no two lists of one result share it.
func TestClosureResultsAreNew(t *testing.T) {
	for _, n := range []int{1, 3, 20, 120} {
		for _, arcs := range goodArcs(n, n) {
			kept, reach := copyArcs(arcs), reachByHand(arcs)
			for what, call := range blockFunctions() {
				checkFresh(t, what, func() []int { l, _ := call(arcs, n/2); return l })
			}
			for _, closure := range someClosures(arcs, reach)[2:5] {
				for _, functions := range []map[string]func([][]int, []int) ([]int, bool){listFunctions(), closureFunctions()} {
					for what, call := range functions {
						checkFresh(t, what, func() []int { l, _ := call(arcs, closure); return l })
					}
				}
				for what, call := range pairFunctions() {
					checkFresh(t, what, func() []int { l, _ := call(arcs, closure, closure); return l })
				}
			}
			reduced, _ := impl.ReducedArcs(arcs)
			checkApart(t, "ReducedArcs", reduced, reducedByHand(arcs, reach))
			if again, _ := impl.ReducedArcs(arcs); !sameArcs(arcs, kept) || !sameArcs(again, reducedByHand(arcs, reach)) {
				t.Fatal("reduced arcs share memory", arcs, again)
			}
		}
	}
}
