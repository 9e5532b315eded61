package tests

import (
	"fmt"
	"math"
	"slices"
	"testing"

	"loop.example/g00914/impl"
)

// endless is a capacity that no flow of a network of arcs and values meets.
const endless = 1 << 40

func pitFunctions() map[string]func([][]int, []int) ([]int, bool) {
	return map[string]func([][]int, []int) ([]int, bool){"BestPit": impl.BestPit, "LargestPit": impl.LargestPit, "FreeBlocks": impl.FreeBlocks}
}

func pitListFunctions() map[string]func([][]int, []int, []int) ([]int, bool) {
	return map[string]func([][]int, []int, []int) ([]int, bool){"ForcedPit": impl.ForcedPit, "PitInside": impl.PitInside}
}

// smallValues are values in -most..most, so that many pits are worth the same.
func smallValues(n, most, seed int) []int {
	next := numbersFrom(uint64(seed))
	values := make([]int, n)
	for i := range values {
		values[i] = next(2*most) - most
	}
	return values
}

// richBelow are values of waste over ore: the deeper a block, the more it may be worth.
func richBelow(n, seed int) []int {
	next := numbersFrom(uint64(seed))
	values := make([]int, n)
	for i := range values {
		values[i] = next(6*i)/max(1, n/3) - 2
	}
	return values
}

// pitValues have best pits of all kinds: also values that are 0 together, or without those that are positive or negative.
func pitValues(n, seed int) [][]int {
	mixed := mixedValues(n, seed)
	even := smallValues(n, 3, seed)
	for i := range even {
		even[n-1] -= even[i] * min(1, n-1-i)
	}
	return [][]int{
		make([]int, n), mixed, smallValues(n, 1, seed), smallValues(n, 3, seed+1), smallValues(n, 1000, seed), richBelow(n, seed), richBelow(n, seed+1), even,
		numbersOf(mixed, func(i, value int) int { return min(value, 0) }),
		numbersOf(mixed, func(i, value int) int { return max(value, 0) }),
		numbersOf(mixed, func(i, value int) int { return i%2*2 - 1 }),
		numbersOf(mixed, func(i, value int) int { return 1000000 - i/(n/2+1)*2000000 }),
		numbersOf(mixed, func(i, value int) int { return i/(n/2+1)*2000000 - 1000000 }),
		slices.Repeat([]int{1000000}, n), slices.Repeat([]int{-1000000}, n),
	}
}

func numbersOf(l []int, change func(i, value int) int) []int {
	changed := make([]int, len(l))
	for i, value := range l {
		changed[i] = change(i, value)
	}
	return changed
}

// sumByHand adds up the values of the blocks that are in a list.
func sumByHand(values, l []int) int {
	sum := 0
	for i, value := range values {
		if slices.Contains(l, i) {
			sum += value
		}
	}
	return sum
}

func positiveByHand(values []int) int {
	return sumByHand(values, numbersWhere(len(values), func(i int) bool { return values[i] > 0 }))
}

// bestOf looks at all wanted ones of the pits, which are sets of bits. It returns the greatest value, and the blocks that all pits with this value and that some of them have.
func bestOf(closures, values []int, wanted func(set int) bool) (value, least, largest int) {
	value = math.MinInt
	for _, set := range closures {
		if !wanted(set) {
			continue
		}
		sum := 0
		for i, own := range values {
			sum += own * (set >> i & 1)
		}
		if sum > value {
			value, least, largest = sum, set, set
		}
		if sum == value {
			least &= set
			largest |= set
		}
	}
	return value, least, largest
}

// pitNetByHand is the network of arcs and values by the words of the document, with any number of edges.
func pitNetByHand(arcs [][]int, values []int) network {
	n := len(arcs)
	w := network{n: n + 2}
	for i := range n {
		if values[i] > 0 {
			w.l = append(w.l, edge(0, i+1, values[i]))
		}
		if values[i] < 0 {
			w.l = append(w.l, edge(i+1, n+1, -values[i]))
		}
		for _, k := range arcs[i] {
			w.l = append(w.l, edge(i+1, k+1, 1000000000))
		}
	}
	return w
}

// pitsByFlows are the least and the largest best pit of those that have all forced blocks and no other ones than the allowed ones. They are the cuts of greatest flows that the tests find themselves.
func pitsByFlows(arcs [][]int, values, forced, allowed []int) (least, largest []int) {
	w := pitNetByHand(arcs, values)
	for i := range arcs {
		if slices.Contains(forced, i) {
			w.l = append(w.l, edge(0, i+1, endless))
		}
		if !slices.Contains(allowed, i) {
			w.l = append(w.l, edge(i+1, w.n-1, endless))
		}
	}
	flows := flowsByHand(w)
	on, fed := spreadByHand(w, flows, 0), fedByHand(w, flows)
	least = numbersWhere(len(arcs), func(i int) bool { return on[i+1] != 0 })
	return least, numbersWhere(len(arcs), func(i int) bool { return !fed[i+1] })
}

// nodesOf has the source and the nodes of a pit.
func nodesOf(pit []int) []int {
	nodes := []int{0}
	for _, i := range pit {
		nodes = append(nodes, i+1)
	}
	return nodes
}

// checkPit demands what a pit is worth by its cut, and whether it is best.
func checkPit(t *testing.T, arcs [][]int, values, pit []int, best int) {
	t.Helper()
	value := sumByHand(values, pit)
	if cut, ok := impl.CutOfPit(arcs, values, pit); cut != positiveByHand(values)-value || !ok {
		t.Error("CutOfPit", arcs, values, pit, cut, ok)
	}
	if is, ok := impl.IsBestPit(arcs, values, pit); is != (value == best) || !ok {
		t.Error("IsBestPit", arcs, values, pit, is, ok)
	}
}

// checkBest demands the best pits, and proves their value by a cut of the network if that is small enough.
func checkBest(t *testing.T, arcs [][]int, values, least, largest []int) {
	t.Helper()
	what := fmt.Sprint(arcs, values)
	got, ok := impl.BestPit(arcs, values)
	checkList(t, "best pit of "+what, got, ok, least)
	got, ok = impl.LargestPit(arcs, values)
	checkList(t, "largest pit of "+what, got, ok, largest)
	free, ok := impl.FreeBlocks(arcs, values)
	checkList(t, "free blocks of "+what, free, ok, numbersWhere(len(arcs), func(i int) bool { return slices.Contains(largest, i) && !slices.Contains(least, i) }))
	best, ok := impl.BestValue(arcs, values)
	if best != sumByHand(values, least) || best != sumByHand(values, largest) || sumByHand(values, free) != 0 || !ok {
		t.Error("BestValue", what, best, ok, least, largest, free)
	}
	if !isClosureByHand(arcs, least) || !isClosureByHand(arcs, largest) || !isIn(least, largest) {
		t.Error("no pits, or the least one is not in the largest one", what, least, largest)
	}
	checkPit(t, arcs, values, least, best)
	checkPit(t, arcs, values, largest, best)
	checkProof(t, arcs, values, least, largest)
}

// checkProof demands promise 9 of the network: its greatest flow is the value of the cuts of both pits.
func checkProof(t *testing.T, arcs [][]int, values, least, largest []int) {
	t.Helper()
	want := pitNetByHand(arcs, values)
	n, l, ok := impl.PitNetwork(arcs, values)
	if len(want.l) > 2000 {
		if n != 0 || len(l) != 0 || ok {
			t.Error("a network with too many edges", len(want.l), n, len(l), ok)
		}
		return
	}
	if n != want.n || !slices.Equal(l, want.l) || !ok || !impl.IsNetwork(n, l) {
		t.Fatal("PitNetwork", arcs, values, n, l, ok, "not", want)
	}
	flow, ok := impl.GreatestFlow(n, l)
	for _, pit := range [][]int{least, largest} {
		cut, also := impl.CutOfPit(arcs, values, pit)
		if value, too := impl.CutValue(n, l, nodesOf(pit)); cut != flow || value != flow || !ok || !also || !too {
			t.Error("no cut proves the value", arcs, values, pit, cut, value, flow)
		}
	}
	first, ok := impl.LeastCut(n, l)
	checkList(t, fmt.Sprint("least cut of ", arcs, values), first, ok, nodesOf(least))
	last, ok := impl.GreatestCut(n, l)
	checkList(t, fmt.Sprint("greatest cut of ", arcs, values), last, ok, nodesOf(largest))
}

// checkFewBlocks demands what the document says of all functions, where all pits are known as sets of bits.
func checkFewBlocks(t *testing.T, arcs [][]int, closures, values []int) {
	t.Helper()
	n := len(arcs)
	best, least, largest := bestOf(closures, values, func(set int) bool { return true })
	checkBest(t, arcs, values, setList(least), setList(largest))
	for _, set := range closures {
		checkPit(t, arcs, values, setList(set), best)
		if value, ok := impl.CutValue(n+2, pitNetByHand(arcs, values).l, nodesOf(setList(set))); value != positiveByHand(values)-sumByHand(values, setList(set)) || !ok {
			t.Error("the cut of a pit", arcs, values, set, value, ok)
		}
	}
	step := 1 + len(closures)/40
	for set := 0; set < 1<<n; set += step {
		_, forced, _ := bestOf(closures, values, func(pit int) bool { return pit&set == set })
		got, ok := impl.ForcedPit(arcs, values, setList(set))
		checkList(t, fmt.Sprint("forced pit ", arcs, values, setList(set)), got, ok, setList(forced))
		_, inside, _ := bestOf(closures, values, func(pit int) bool { return pit&^set == 0 })
		got, ok = impl.PitInside(arcs, values, setList(set))
		checkList(t, fmt.Sprint("pit inside ", arcs, values, setList(set)), got, ok, setList(inside))
	}
	for i := range n {
		rest, _, _ := bestOf(closures, values, func(pit int) bool { return pit>>i&1 == 0 })
		if loss, ok := impl.LossWithout(arcs, values, i); loss != best-rest || loss < 0 || !ok {
			t.Error("LossWithout", arcs, values, i, loss, ok, "not", best-rest)
		}
	}
}

// eachValues has all values of n blocks in -most..most.
func eachValues(n, most int, see func([]int)) {
	all := 1
	for range n {
		all *= 2*most + 1
	}
	for choice := range all {
		values := make([]int, n)
		for i := range values {
			values[i] = choice%(2*most+1) - most
			choice /= 2*most + 1
		}
		see(values)
	}
}

func TestPitExample(t *testing.T) {
	arcs := [][]int{nil, nil, {0, 1}}
	for _, values := range [][]int{{-2, -1, 0}, {0, 0, 0}, {-1, 0, -5}} {
		best, ok := impl.BestPit(arcs, values)
		checkList(t, "no value is positive", best, ok, nil)
	}
	checkBest(t, arcs, []int{-2, -1, 5}, []int{0, 1, 2}, []int{0, 1, 2})
	checkBest(t, arcs, []int{-2, 0, 1}, nil, []int{1})
	checkBest(t, arcs, []int{-2, -1, 3}, nil, []int{0, 1, 2})
}

// Promise 9 for all arcs of up to four blocks with all small values.
func TestPitsOfFewBlocks(t *testing.T) {
	for _, c := range []struct{ n, most int }{{1, 3}, {2, 3}, {3, 2}, {4, 1}} {
		eachArcs(c.n, func(arcs [][]int) {
			closures := closureSets(arcs)
			eachValues(c.n, c.most, func(values []int) { checkFewBlocks(t, arcs, closures, values) })
		})
	}
}

// Promise 9 for all pits of arcs of some more blocks.
func TestPitsOfSomeBlocks(t *testing.T) {
	choice := 0
	eachArcs(5, func(arcs [][]int) {
		choice++
		values := pitValues(5, choice)
		checkFewBlocks(t, arcs, closureSets(arcs), values[choice%len(values)])
	})
	for n := 5; n <= 8; n++ {
		for k, arcs := range goodArcs(n, n) {
			closures := closureSets(arcs)
			for _, values := range pitValues(n, k) {
				checkFewBlocks(t, arcs, closures, values)
			}
		}
	}
}

// manyPits calls back for arcs of up to MaxBlocks blocks with some values.
func manyPits(see func(arcs [][]int, values []int)) {
	all := slopeArcs()
	for _, n := range []int{10, 20, 60, 119, 120} {
		all = append(all, goodArcs(n, n)...)
	}
	for k, arcs := range all {
		values := pitValues(len(arcs), k)
		for shift := range 5 {
			see(arcs, values[(5*k+shift)%len(values)])
		}
	}
}

// Promise 9 for many blocks, where greatest flows that the tests find themselves tell the best pits.
func TestPitsOfManyBlocks(t *testing.T) {
	manyPits(func(arcs [][]int, values []int) {
		least, largest := pitsByFlows(arcs, values, nil, validLists(len(arcs))[4])
		checkBest(t, arcs, values, least, largest)
	})
}

func TestForcedPitsAndPitsInside(t *testing.T) {
	at := 0
	manyPits(func(arcs [][]int, values []int) {
		n := len(arcs)
		all := validLists(n)[4]
		lists := append(validLists(n), mixedList(n, at), []int{n / 2}, without(all, at%n))
		for shift := range 2 {
			at++
			l := lists[(at+3*shift)%len(lists)]
			what := fmt.Sprint(l, arcs, values)
			want, _ := pitsByFlows(arcs, values, l, all)
			forced, ok := impl.ForcedPit(arcs, values, l)
			checkList(t, "forced pit "+what, forced, ok, want)
			want, _ = pitsByFlows(arcs, values, nil, l)
			inside, ok := impl.PitInside(arcs, values, l)
			checkList(t, "pit inside "+what, inside, ok, want)
			if !isClosureByHand(arcs, forced) || !isIn(l, forced) || !isClosureByHand(arcs, inside) || !isIn(inside, l) {
				t.Error("no pits, or not as demanded", what, forced, inside)
			}
		}
	})
}

func TestLossesOfManyBlocks(t *testing.T) {
	at := 0
	manyPits(func(arcs [][]int, values []int) {
		n := len(arcs)
		all := validLists(n)[4]
		least, largest := pitsByFlows(arcs, values, nil, all)
		for _, i := range []int{0, at % n, n - 1} {
			at++
			rest, _ := pitsByFlows(arcs, values, nil, without(all, i))
			loss, ok := impl.LossWithout(arcs, values, i)
			if loss != sumByHand(values, least)-sumByHand(values, rest) || !ok {
				t.Error("LossWithout", arcs, values, i, loss, ok)
			}
			if (loss > 0) != slices.Contains(least, i) || loss > 0 && !slices.Contains(largest, i) {
				t.Error("a loss without what not all best pits have", arcs, values, i, loss)
			}
		}
	})
}

func TestCutsOfManyBlocks(t *testing.T) {
	at := 0
	manyPits(func(arcs [][]int, values []int) {
		at++
		if at%3 != 0 {
			return
		}
		least, _ := pitsByFlows(arcs, values, nil, validLists(len(arcs))[4])
		best := sumByHand(values, least)
		pits := someClosures(arcs, reachByHand(arcs))
		for _, pit := range pits {
			checkPit(t, arcs, values, pit, best)
		}
		for _, l := range listsLackingOne(arcs, pits) {
			checkNoPit(t, arcs, values, l)
		}
	})
}

func checkNoPit(t *testing.T, arcs [][]int, values, pit []int) {
	t.Helper()
	if cut, ok := impl.CutOfPit(arcs, values, pit); cut != 0 || ok {
		t.Error("CutOfPit", arcs, values, pit, cut, ok)
	}
	if is, ok := impl.IsBestPit(arcs, values, pit); is || ok {
		t.Error("IsBestPit", arcs, values, pit, is, ok)
	}
}

func TestPitsAtTheirEdges(t *testing.T) {
	fork := [][]int{nil, {0}, {0}, {1, 2}, nil}
	all := validLists(120)[4]
	first, last := make([]int, 120), make([]int, 120)
	first[0], last[119] = 1, 1
	for _, c := range []struct {
		what           string
		arcs           [][]int
		values         []int
		least, largest []int
		value          int
	}{
		{"one block of waste", [][]int{nil}, []int{-1}, nil, nil, 0},
		{"one block worth nothing", [][]int{{}}, []int{0}, nil, []int{0}, 0},
		{"one block of ore", [][]int{nil}, []int{1}, []int{0}, []int{0}, 1},
		{"one block at MaxWorth", [][]int{nil}, []int{1000000}, []int{0}, []int{0}, 1000000},
		{"one block at -MaxWorth", [][]int{nil}, []int{-1000000}, nil, nil, 0},
		{"no arcs", [][]int{nil, nil, nil}, []int{3, -2, 0}, []int{0}, []int{0, 2}, 3},
		{"nothing but waste", fork, []int{-1, -1, -1, -1, -1}, nil, nil, 0},
		{"nothing but ore", fork, []int{1, 2, 3, 4, 5}, []int{0, 1, 2, 3, 4}, []int{0, 1, 2, 3, 4}, 15},
		{"nothing but zeros", fork, []int{0, 0, 0, 0, 0}, nil, []int{0, 1, 2, 3, 4}, 0},
		{"zeros above ore", fork, []int{0, 0, 0, 2, 0}, []int{0, 1, 2, 3}, []int{0, 1, 2, 3, 4}, 2},
		{"zeros below waste", fork, []int{-1, 0, 0, 0, 0}, nil, []int{4}, 0},
		{"ore that just pays its waste", fork, []int{-1, -1, -1, 3, 0}, nil, []int{0, 1, 2, 3, 4}, 0},
		{"ore that pays a little more", fork, []int{-1, -1, -1, 4, -1}, []int{0, 1, 2, 3}, []int{0, 1, 2, 3}, 1},
		{"ore that pays a little less", fork, []int{-1, -1, -1, 2, -1}, nil, nil, 0},
		{"one side that pays for the root", fork, []int{-2, 3, -2, 1, -1}, []int{0, 1}, []int{0, 1}, 1},
		{"two sides that pay for the root together", fork, []int{-3, 2, 2, -1, -1}, []int{0, 1, 2}, []int{0, 1, 2}, 1},
		{"one side that just pays for the root", fork, []int{-2, 2, 0, -1, 0}, nil, []int{0, 1, 2, 4}, 0},
		{"free blocks that are worth nothing together", fork, []int{1, -1, -1, 2, 0}, []int{0}, []int{0, 1, 2, 3, 4}, 1},
		{"deep ore under a chain", [][]int{nil, {0}, {1}, {2}}, []int{-1, 0, -1, 3}, []int{0, 1, 2, 3}, []int{0, 1, 2, 3}, 1},
		{"two parts of a chain that pay nothing", [][]int{nil, {0}, {1}, {2}}, []int{-1, 1, -1, 1}, nil, []int{0, 1, 2, 3}, 0},
		{"the first part of a chain", [][]int{nil, {0}, {1}, {2}}, []int{-1, 2, -1, 1}, []int{0, 1}, []int{0, 1, 2, 3}, 1},
		{"120 blocks of ore at MaxWorth", noArcs(120), slices.Repeat([]int{1000000}, 120), all, all, 120000000},
		{"120 blocks with all arcs of ore at MaxWorth", allArcs(120), slices.Repeat([]int{1000000}, 120), all, all, 120000000},
		{"120 blocks of waste at MaxWorth", allArcs(120), slices.Repeat([]int{-1000000}, 120), nil, nil, 0},
		{"ore at the top of a chain of 120 blocks", stepArcs(120, 1), first, []int{0}, all, 1},
		{"ore at the end of a chain of 120 blocks", stepArcs(120, 1), last, all, all, 1},
	} {
		checkBest(t, c.arcs, c.values, c.least, c.largest)
		if best, ok := impl.BestValue(c.arcs, c.values); best != c.value || !ok {
			t.Error(c.what, best, ok)
		}
	}
}

// 59 blocks of ore lie below 60 others, with one block between, through which all flows run.
func TestPitsOfTheGreatestValues(t *testing.T) {
	arcs := arcsWhere(120, func(i, k int) bool { return i == 60 && k < 60 || i > 60 && k == 60 })
	all := validLists(120)[4]
	values := numbersOf(make([]int, 120), func(i, value int) int { return i/60*2000000 - 1000000 })
	for _, c := range []struct {
		first, neck    int
		least, largest []int
	}{{-1, 0, nil, nil}, {-1, 1, nil, all}, {-1, 2, all, all}, {0, 0, nil, all}, {0, 1, all, all}, {1, 0, []int{0}, all}} {
		// The other 59 blocks above cost as much as the ore is worth.
		values[0], values[60] = c.first, c.neck
		checkBest(t, arcs, values, c.least, c.largest)
	}
	got, ok := impl.ForcedPit(arcs, slices.Repeat([]int{-1000000}, 120), []int{119})
	checkList(t, "forced waste", got, ok, append(slices.Clone(all[:61]), 119))
	got, ok = impl.PitInside(arcs, slices.Repeat([]int{1000000}, 120), all[1:])
	checkList(t, "ore under a block that is not allowed", got, ok, all[1:60])
	if loss, ok := impl.LossWithout(arcs, slices.Repeat([]int{1000000}, 120), 0); loss != 61000000 || !ok {
		t.Error("loss without a block above many", loss, ok)
	}
}

func TestPitNetworksAtTheirEdges(t *testing.T) {
	for _, c := range []struct {
		what   string
		arcs   [][]int
		values []int
		want   network
	}{
		{"one block of ore", [][]int{nil}, []int{7}, net(3, edge(0, 1, 7))},
		{"one block of waste", [][]int{nil}, []int{-7}, net(3, edge(1, 2, 7))},
		{"one block worth nothing", [][]int{nil}, []int{0}, net(3)},
		{"the greatest values", [][]int{nil, {0}}, []int{-1000000, 1000000}, net(4, edge(1, 3, 1000000), edge(0, 2, 1000000), edge(2, 1, 1000000000))},
		{"zeros have their arcs alone", [][]int{nil, {0}, {0, 1}}, []int{0, 0, 0}, net(5, edge(2, 1, 1000000000), edge(3, 1, 1000000000), edge(3, 2, 1000000000))},
		{"values stand before arcs", [][]int{nil, nil, {0, 1}, {1}}, []int{1, -2, -3, 4}, net(6, edge(0, 1, 1), edge(2, 5, 2), edge(3, 5, 3), edge(3, 1, 1000000000), edge(3, 2, 1000000000), edge(0, 4, 4), edge(4, 2, 1000000000))},
		{"arcs that are needless stay", [][]int{nil, {0}, {0, 1}}, []int{-1, 0, 1}, net(5, edge(1, 4, 1), edge(2, 1, 1000000000), edge(0, 3, 1), edge(3, 1, 1000000000), edge(3, 2, 1000000000))},
		{"no arcs and no values", noArcs(120), make([]int, 120), net(122)},
	} {
		n, l, ok := impl.PitNetwork(c.arcs, c.values)
		if n != c.want.n || !slices.Equal(l, c.want.l) || !ok {
			t.Error(c.what, n, l, ok)
		}
	}
}

// arcsInAll are the first so many ones of all arcs.
func arcsInAll(n, count int) [][]int {
	return arcsWhere(n, func(i, k int) bool { return i*(i-1)/2+k < count })
}

// Only PitNetwork fails for more than MaxEdges edges: no other function returns them.
func TestNetworksWithManyEdges(t *testing.T) {
	for _, n := range []int{63, 64, 65, 100, 120} {
		for _, spent := range []int{0, 1, 30, n - 1, n} {
			for _, edges := range []int{1999, 2000, 2001, 2010} {
				if edges-spent > n*(n-1)/2 {
					continue
				}
				arcs := arcsInAll(n, edges-spent)
				values := numbersOf(make([]int, n), func(i, value int) int {
					if i < n-spent {
						return 0
					}
					return []int{-1, 2, 3}[i%3]
				})
				count, l, ok := impl.PitNetwork(arcs, values)
				if fits := edges <= 2000; ok != fits || fits && (count != n+2 || len(l) != edges) {
					t.Error("a network of so many edges:", edges, n, count, len(l), ok)
				}
				least, largest := pitsByFlows(arcs, values, nil, validLists(n)[4])
				checkBest(t, arcs, values, least, largest)
			}
		}
	}
	got, ok := impl.ForcedPit(allArcs(120), slices.Repeat([]int{-1}, 120), []int{60})
	checkList(t, "forced among all arcs", got, ok, validLists(61)[4])
	got, ok = impl.PitInside(allArcs(120), slices.Repeat([]int{1}, 120), without(validLists(120)[4], 60))
	checkList(t, "inside among all arcs", got, ok, validLists(60)[4])
	if loss, ok := impl.LossWithout(allArcs(120), slices.Repeat([]int{1}, 120), 60); loss != 60 || !ok {
		t.Error("loss among all arcs", loss, ok)
	}
}

func TestForcedPitsAndPitsInsideAtTheirEdges(t *testing.T) {
	fork := [][]int{nil, {0}, {0}, {1, 2}, nil}
	paid := []int{-2, 3, -2, 1, -1}
	all := []int{0, 1, 2, 3, 4}
	for _, c := range []struct {
		what               string
		values, l          []int
		isForced, isInside []int
	}{
		{"no block", paid, nil, []int{0, 1}, nil},
		{"an empty list", paid, []int{}, []int{0, 1}, nil},
		{"a block of every best pit", paid, []int{0}, []int{0, 1}, nil},
		{"both blocks of the best pit", paid, []int{0, 1}, []int{0, 1}, []int{0, 1}},
		{"a block of no best pit", paid, []int{2}, []int{0, 1, 2, 3}, nil},
		{"a deep block of no best pit", paid, []int{3}, []int{0, 1, 2, 3}, nil},
		{"a block apart", paid, []int{4}, []int{0, 1, 4}, nil},
		{"all blocks", paid, all, all, []int{0, 1}},
		{"arcs that lead out of the list", paid, []int{1, 2, 3, 4}, all, nil},
		{"ore that is forced alone", []int{0, 0, 0, 5, 0}, []int{4}, all, nil},
		{"deep ore whose arcs lead out", []int{1, 0, 0, 5, 0}, []int{0, 1, 3}, []int{0, 1, 2, 3}, []int{0}},
		{"waste that is forced pays nothing twice", []int{-5, 1, 0, -1, 0}, []int{0}, []int{0, 1}, nil},
		{"zeros are neither forced nor wanted", []int{0, 0, 0, 0, 0}, []int{0, 4}, []int{0, 4}, nil},
		{"ore of a list without waste", []int{3, -1, 1, 2, 2}, []int{0, 2, 4}, all, []int{0, 2, 4}},
		{"forced blocks below which nothing is won", []int{3, -1, 1, 1, 2}, []int{0, 2, 4}, []int{0, 2, 4}, []int{0, 2, 4}},
	} {
		got, ok := impl.ForcedPit(fork, c.values, c.l)
		checkList(t, c.what+": forced", got, ok, c.isForced)
		got, ok = impl.PitInside(fork, c.values, c.l)
		checkList(t, c.what+": inside", got, ok, c.isInside)
	}
}

func TestPitsThatAreAndAreNotBest(t *testing.T) {
	fork := [][]int{nil, {0}, {0}, {1, 2}, nil}
	for _, c := range []struct {
		what        string
		values, pit []int
		cut         int
		is          bool
	}{
		{"the empty pit of waste", []int{-1, -1, -1, -1, -1}, nil, 0, true},
		{"the pit of all blocks of waste", []int{-1, -1, -1, -1, -1}, []int{0, 1, 2, 3, 4}, 5, false},
		{"the empty pit of ore", []int{1, 2, 3, 4, 5}, []int{}, 15, false},
		{"the pit of all blocks of ore", []int{1, 2, 3, 4, 5}, []int{0, 1, 2, 3, 4}, 0, true},
		{"the least best pit", []int{1, -1, -1, 2, 0}, []int{0}, 2, true},
		{"the largest best pit", []int{1, -1, -1, 2, 0}, []int{0, 1, 2, 3, 4}, 2, true},
		{"a best pit between both", []int{1, -1, -1, 2, 0}, []int{0, 4}, 2, true},
		{"another one", []int{1, -1, -1, 2, 0}, []int{0, 1, 2, 3}, 2, true},
		{"a pit that is worth less", []int{1, -1, -1, 2, 0}, []int{0, 1}, 3, false},
		{"zeros, the empty pit", make([]int, 5), nil, 0, true},
		{"zeros, all blocks", make([]int, 5), []int{0, 1, 2, 3, 4}, 0, true},
	} {
		cut, ok := impl.CutOfPit(fork, c.values, c.pit)
		is, also := impl.IsBestPit(fork, c.values, c.pit)
		if cut != c.cut || is != c.is || !ok || !also {
			t.Error(c.what, cut, ok, is, also)
		}
	}
	for _, l := range [][]int{{1}, {3}, {0, 3}, {1, 2, 3}, {0, 1, 3, 4}} {
		checkNoPit(t, fork, []int{1, 1, 1, 1, 1}, l)
	}
}

func TestLossesAtTheirEdges(t *testing.T) {
	fork := [][]int{nil, {0}, {0}, {1, 2}, nil}
	for _, c := range []struct {
		values, losses []int
	}{
		{[]int{-2, 3, -2, 1, -1}, []int{1, 1, 0, 0, 0}},
		{[]int{1, -1, -1, 2, 0}, []int{1, 0, 0, 0, 0}},
		{[]int{-1, -1, -1, 5, 7}, []int{2, 2, 2, 2, 7}},
		{[]int{4, 3, -1, 1, 1}, []int{7, 3, 0, 0, 1}},
		{[]int{4, 3, -1, 2, 1}, []int{8, 4, 1, 1, 1}},
		{[]int{0, 0, 0, 0, 0}, []int{0, 0, 0, 0, 0}},
		{[]int{-1, -1, -1, -1, -1}, []int{0, 0, 0, 0, 0}},
		{[]int{1, 1, 1, 1, 1}, []int{4, 2, 2, 1, 1}},
	} {
		for i, want := range c.losses {
			if loss, ok := impl.LossWithout(fork, c.values, i); loss != want || !ok {
				t.Error("LossWithout", c.values, i, loss, ok)
			}
		}
		for _, i := range outside(4) {
			if loss, ok := impl.LossWithout(fork, c.values, i); loss != 0 || ok {
				t.Error("a loss without no block", c.values, i, loss, ok)
			}
		}
	}
}

// checkNoPits demands nothing from all functions of arcs and values.
func checkNoPits(t *testing.T, arcs [][]int, values, l []int, i int) {
	t.Helper()
	for what, call := range pitFunctions() {
		if got, ok := call(arcs, values); len(got) != 0 || ok {
			t.Error(what, arcs, values, got, ok)
		}
	}
	if best, ok := impl.BestValue(arcs, values); best != 0 || ok {
		t.Error("BestValue", arcs, values, best, ok)
	}
	if n, edges, ok := impl.PitNetwork(arcs, values); n != 0 || len(edges) != 0 || ok {
		t.Error("PitNetwork", arcs, values, n, edges, ok)
	}
	checkNoPitList(t, arcs, values, l)
	if loss, ok := impl.LossWithout(arcs, values, i); loss != 0 || ok {
		t.Error("LossWithout", arcs, values, i, loss, ok)
	}
}

func checkNoPitList(t *testing.T, arcs [][]int, values, l []int) {
	t.Helper()
	checkNoPit(t, arcs, values, l)
	for what, call := range pitListFunctions() {
		if got, ok := call(arcs, values, l); len(got) != 0 || ok {
			t.Error(what, arcs, values, l, got, ok)
		}
	}
}

func TestWrongArcsHaveNoPits(t *testing.T) {
	for _, arcs := range wrongArcs() {
		n := len(arcs)
		for _, values := range [][]int{make([]int, n), mixedValues(n, n), slices.Repeat([]int{1}, n), nil} {
			checkNoPits(t, arcs, values, nil, 0)
			checkNoPits(t, arcs, values, []int{0}, n-1)
		}
	}
}

func TestWrongValuesHaveNoPits(t *testing.T) {
	for _, values := range wrongValues() {
		for _, n := range []int{1, 2, 3, 119, 120} {
			checkNoPits(t, noArcs(n), values, nil, 0)
			checkNoPits(t, stepArcs(n, 1), values, []int{0}, n-1)
		}
		if n := len(values); n > 0 && n <= 120 {
			checkNoPits(t, allArcs(n), values, validLists(n)[4], n-1)
		}
	}
	for _, n := range []int{1, 2, 3, 60, 119, 120} {
		for _, arcs := range goodArcs(n, n) {
			for _, count := range []int{0, n - 1, n + 1, 2 * n, 120, 121} {
				if count != n {
					checkNoPits(t, arcs, mixedValues(count, n), []int{0}, 0)
				}
			}
			for _, wrong := range outside(1000000) {
				if wrong < -1000000 || wrong > 1000000 {
					values := make([]int, n)
					values[n/2] = wrong
					checkNoPits(t, arcs, values, nil, n/2)
				}
			}
			for _, most := range []int{-1000001, 1000001} {
				values := mixedValues(n, n)
				values[n-1] = most
				checkNoPits(t, arcs, values, nil, 0)
			}
		}
	}
}

func TestWrongBlocksAndListsOfPits(t *testing.T) {
	for _, n := range []int{1, 2, 3, 20, 120} {
		for k, arcs := range goodArcs(n, n) {
			values := pitValues(n, k)[k%15]
			for _, l := range wrongLists(n) {
				checkNoPitList(t, arcs, values, l)
			}
			for _, i := range outside(n - 1) {
				if loss, ok := impl.LossWithout(arcs, values, i); loss != 0 || ok {
					t.Error("LossWithout", arcs, values, i, loss, ok)
				}
			}
		}
	}
}

// usePits calls all functions of chapter 9, and writes into everything that they return, so that shared memory shows.
func usePits(arcs [][]int, values, l []int, i int) {
	for _, call := range pitFunctions() {
		pit, _ := call(arcs, values)
		spoilList(pit)
	}
	for _, call := range pitListFunctions() {
		pit, _ := call(arcs, values, l)
		spoilList(pit)
	}
	_, edges, _ := impl.PitNetwork(arcs, values)
	spoilEdges(edges)
	impl.BestValue(arcs, values)
	impl.CutOfPit(arcs, values, l)
	impl.IsBestPit(arcs, values, l)
	impl.LossWithout(arcs, values, i)
}

// Promise 33: no argument makes a function of chapter 9 panic.
func TestPitsNeverPanic(t *testing.T) {
	all := wrongArcs()
	for _, n := range []int{1, 3, 20, 120} {
		all = append(all, goodArcs(n, n)...)
	}
	numbers := edgeInts()
	wrong := wrongValues()
	for k, arcs := range all {
		n := len(arcs)
		values := append(pitValues(max(n, 1), k), wrong[k%len(wrong)], wrong[(k+7)%len(wrong)])
		lists := append(append(wrongLists(n), validLists(max(n, 1))...), wrongLists(120)[:12]...)
		for shift := range 4 {
			at := 4*k + shift
			l, own := lists[at%len(lists)], values[(5*at+1)%len(values)]
			noPanic(t, fmt.Sprint("a function of arcs by their number ", k, own, l), func() {
				usePits(arcs, own, l, numbers[at%len(numbers)])
				usePits(arcs, l, own, at%121)
			})
		}
	}
	for _, x := range numbers {
		for _, y := range numbers {
			noPanic(t, fmt.Sprint("a function of the numbers ", x, y), func() {
				for _, arcs := range [][][]int{nil, {{x}}, {nil, {x, y}}, {{y}, {x}}, noArcs(1), noArcs(2), allArcs(3)} {
					usePits(arcs, []int{x, y}, []int{x, y}, x)
					usePits(arcs, []int{1, 2, x}, []int{y}, y)
				}
			})
		}
	}
}

// Promise 33: no function of chapter 9 changes its arguments or what lies behind them.
func TestPitArgumentsStay(t *testing.T) {
	all := wrongArcs()[:100]
	for _, n := range []int{1, 3, 20, 120} {
		all = append(all, goodArcs(n, n)...)
	}
	for k, given := range all {
		n := max(1, len(given))
		lists := append(validLists(n), wrongLists(n)[:4]...)
		if areArcsByHand(given) {
			lists = append(lists, someClosures(given, reachByHand(given))[3:6]...)
		}
		for at, own := range lists {
			arcs, memory := roomyArcs(given)
			values, wholeValues := roomy(pitValues(n, k)[(at+k)%15])
			l, wholeList := roomy(own)
			before, kept := memory(), copyArcs([][]int{wholeValues, wholeList})
			usePits(arcs, values, l, at%n)
			usePits(arcs, l, values, n)
			if !sameArcs(memory(), before) || !sameArcs([][]int{wholeValues, wholeList}, kept) {
				t.Fatal("an argument is changed", given, kept)
			}
		}
	}
}

// Promise 33: results are new memory, and a call leaves no trace for a later one.
func TestPitResultsAreNew(t *testing.T) {
	for _, n := range []int{1, 3, 20, 120} {
		for k, arcs := range goodArcs(n, n) {
			values := pitValues(n, k)[(k+2)%15]
			for what, call := range pitFunctions() {
				checkFresh(t, what, func() []int { l, _ := call(arcs, values); return l })
			}
			closure := someClosures(arcs, reachByHand(arcs))[4]
			for what, call := range pitListFunctions() {
				for _, l := range [][]int{nil, closure, validLists(n)[4]} {
					checkFresh(t, what, func() []int { got, _ := call(arcs, values, l); return got })
				}
			}
			want := pitNetByHand(arcs, values)
			if len(want.l) > 2000 {
				continue
			}
			_, first, _ := impl.PitNetwork(arcs, values)
			_, second, _ := impl.PitNetwork(arcs, values)
			spoilEdges(second)
			if _, third, _ := impl.PitNetwork(arcs, values); !slices.Equal(first, want.l) || !slices.Equal(third, want.l) {
				t.Fatal("networks share memory", arcs, values)
			}
		}
	}
}
