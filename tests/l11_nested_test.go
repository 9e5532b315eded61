package tests

import (
	"fmt"
	"slices"
	"testing"

	"loop.example/g00914/impl"
)

// yields are gains and costs of the same blocks.
type yields struct{ gains, costs []int }

func nestedFunctions() map[string]func(arcs [][]int, gains, costs []int, most int) ([]int, bool) {
	return map[string]func([][]int, []int, []int, int) ([]int, bool){
		"PitAt": impl.PitAt, "ChangesOf": impl.ChangesOf, "FirstFactors": impl.FirstFactors, "ValuesTo": impl.ValuesTo,
	}
}

func nestedListsFunctions() map[string]func(arcs [][]int, gains, costs []int, most int) ([][]int, bool) {
	return map[string]func([][]int, []int, []int, int) ([][]int, bool){"PitsTo": impl.PitsTo, "ShellsOf": impl.ShellsOf}
}

func mixedNumbers(n, most, seed int) []int {
	next := numbersFrom(uint64(seed))
	return numbersOf(make([]int, n), func(i, number int) int { return next(most) })
}

// someYields have pits that never come, that come at once or late, and that grow again and again.
func someYields(n, seed int) []yields {
	none, zeros := make([]int, n), make([]int, n)
	greatest := slices.Repeat([]int{10000}, n)
	ones := slices.Repeat([]int{1}, n)
	late := numbersOf(none, func(i, number int) int { return 55 + (i+seed)%8 })
	deep := func(most, all int) []int {
		return numbersOf(mixedNumbers(n, most, seed+all), func(i, number int) int { return number * i / n })
	}
	return []yields{
		{none, mixedNumbers(n, 400000, seed)}, {none, zeros}, {greatest, zeros}, {greatest, slices.Repeat([]int{400000}, n)}, {ones, late},
		{mixedNumbers(n, 10000, seed), mixedNumbers(n, 400000, seed+1)},
		{mixedNumbers(n, 10000, seed+2), mixedNumbers(n, 20000, seed+3)},
		{mixedNumbers(n, 3, seed), mixedNumbers(n, 30, seed+4)},
		{mixedNumbers(n, 1, seed), mixedNumbers(n, 2, seed+5)},
		{mixedNumbers(n, 1, seed+6), mixedNumbers(n, 60, seed+7)},
		{deep(3*n, 8), mixedNumbers(n, 5*n, seed+9)},
		{deep(10000, 10), mixedNumbers(n, 100000, seed+11)},
		{numbersOf(none, func(i, number int) int { return i / (n/2 + 1) * 50 }), mixedNumbers(n, 900, seed+12)},
		{numbersOf(none, func(i, number int) int { return (i + seed) % 2 * 10000 }), numbersOf(none, func(i, number int) int { return (i + seed) % 3 / 2 * 400000 })},
	}
}

// valuesAt takes the costs once and adds the gains again and again.
func valuesAt(v yields, factor int) []int {
	return numbersOf(v.costs, func(i, cost int) int {
		value := -cost
		for range factor {
			value += v.gains[i]
		}
		return value
	})
}

// pitsOfSets are the least best ones of all pits, which are sets of bits.
func pitsOfSets(closures []int, v yields, most int) [][]int {
	var pits [][]int
	for factor := range most + 1 {
		_, least, _ := bestOf(closures, valuesAt(v, factor), func(set int) bool { return true })
		pits = append(pits, setList(least))
	}
	return pits
}

// pitsOfFirsts has the pits of which each has the blocks that come at its factor or before.
func pitsOfFirsts(firsts []int, most int) [][]int {
	var pits [][]int
	for factor := range most + 1 {
		pits = append(pits, numbersWhere(len(firsts), func(i int) bool { return firsts[i] >= 0 && firsts[i] <= factor }))
	}
	return pits
}

func shellsByHand(pits [][]int) [][]int {
	shells := [][]int{pits[0]}
	for factor := 1; factor < len(pits); factor++ {
		shells = append(shells, slices.DeleteFunc(slices.Clone(pits[factor]), func(i int) bool { return slices.Contains(pits[factor-1], i) }))
	}
	return shells
}

// nearestByHand asks for each gap in turn whether some pit has it.
func nearestByHand(pits [][]int, size int) int {
	for gap := range 121 {
		for factor, pit := range pits {
			if apart(len(pit), size) == gap {
				return factor
			}
		}
	}
	return -1
}

func checkNearest(t *testing.T, arcs [][]int, v yields, most, size, want int) {
	t.Helper()
	if factor, ok := impl.NearestPit(arcs, v.gains, v.costs, most, size); factor != want || !ok {
		t.Error("NearestPit", arcs, v, most, size, factor, ok, "not", want)
	}
}

func checkLists(t *testing.T, what string, got [][]int, ok bool, want [][]int) {
	t.Helper()
	if !ok || !sameArcs(got, want) {
		t.Errorf("%s: %v %v, not %v", what, got, ok, want)
	}
}

func checkNumbers(t *testing.T, what string, got []int, ok bool, want []int) {
	t.Helper()
	if !ok || !slices.Equal(got, want) {
		t.Errorf("%s: %v %v, not %v", what, got, ok, want)
	}
}

// checkNested demands what the document says of all functions up to a factor, where the pits are known.
func checkNested(t *testing.T, arcs [][]int, v yields, want [][]int, sizes []int) {
	t.Helper()
	most := len(want) - 1
	what := fmt.Sprint(arcs, v, most)
	pits, ok := impl.PitsTo(arcs, v.gains, v.costs, most)
	checkLists(t, "pits to "+what, pits, ok, want)
	last, ok := impl.PitAt(arcs, v.gains, v.costs, most)
	checkList(t, "pit at "+what, last, ok, want[most])
	changes, ok := impl.ChangesOf(arcs, v.gains, v.costs, most)
	checkList(t, "changes of "+what, changes, ok, numbersWhere(most+1, func(factor int) bool {
		return factor > 0 && !slices.Equal(want[factor], want[factor-1])
	}))
	firsts, ok := impl.FirstFactors(arcs, v.gains, v.costs, most)
	checkNumbers(t, "first factors of "+what, firsts, ok, numbersOf(make([]int, len(arcs)), func(i, number int) int {
		return slices.IndexFunc(want, func(pit []int) bool { return slices.Contains(pit, i) })
	}))
	shells, ok := impl.ShellsOf(arcs, v.gains, v.costs, most)
	checkLists(t, "shells of "+what, shells, ok, shellsByHand(want))
	worths, ok := impl.ValuesTo(arcs, v.gains, v.costs, most)
	checkNumbers(t, "values to "+what, worths, ok, numbersOf(make([]int, most+1), func(factor, number int) int {
		return sumByHand(valuesAt(v, factor), want[factor])
	}))
	for _, size := range sizes {
		checkNearest(t, arcs, v, most, size, nearestByHand(want, size))
	}
	checkGrowth(t, arcs, pits, shells)
}

// checkGrowth demands promise 11 of what is told: pits grow, and the shells up to a factor are the pit.
func checkGrowth(t *testing.T, arcs, pits, shells [][]int) {
	t.Helper()
	if is, ok := impl.IsChain(pits); !is || !ok || len(shells) != len(pits) {
		t.Fatal("no chain of pits, or not as many shells", arcs, pits, shells, is, ok)
	}
	var joined []int
	for factor, pit := range pits {
		joined = append(joined, shells[factor]...)
		slices.Sort(joined)
		if !slices.Equal(joined, pit) || !isIncreasing(shells[factor]) || !isClosureByHand(arcs, pit) {
			t.Error("shells are no pit", arcs, factor, shells, pit)
		}
		if factor > 0 && !isIn(pits[factor-1], pit) {
			t.Error("a pit does not grow", arcs, factor, pits)
		}
	}
}

// fewSizes has the numbers of the blocks of pits, those between them and those at the limits.
func fewSizes(pits [][]int) []int {
	sizes := []int{0, 1, 119, 120}
	for _, pit := range pits {
		sizes = append(sizes, len(pit), min(len(pit)+1, 120))
	}
	slices.Sort(sizes)
	sizes = slices.Compact(sizes)
	if len(sizes) > 12 {
		sizes = append(sizes[:8], sizes[len(sizes)-4:]...)
	}
	return sizes
}

func TestNestedExample(t *testing.T) {
	arcs := [][]int{nil, nil, {0, 1}}
	v := yields{[]int{0, 0, 2}, []int{2, 1, 1}}
	checkNested(t, arcs, v, [][]int{nil, nil, nil, {0, 1, 2}, {0, 1, 2}}, []int{0, 1, 2, 3, 4, 120})
	worths, ok := impl.ValuesTo(arcs, v.gains, v.costs, 4)
	checkNumbers(t, "values", worths, ok, []int{0, 0, 0, 2, 4})
	// Without gains all are 0.
	worths, ok = impl.ValuesTo(arcs, []int{0, 0, 0}, v.costs, 60)
	checkNumbers(t, "values without gains", worths, ok, make([]int, 61))
}

// Promise 11 for all arcs of up to three blocks with all small gains and costs.
func TestNestedPitsOfFewBlocks(t *testing.T) {
	for _, c := range []struct{ n, gain, cost, most int }{{1, 4, 12, 14}, {2, 3, 4, 6}, {3, 2, 2, 3}} {
		eachArcs(c.n, func(arcs [][]int) {
			closures := closureSets(arcs)
			eachDepths(c.n, c.gain, func(gains []int) {
				eachDepths(c.n, c.cost, func(costs []int) {
					v := yields{gains, costs}
					checkNested(t, arcs, v, pitsOfSets(closures, v, c.most), []int{0, 1, c.n - 1, c.n, 120})
				})
			})
		})
	}
}

// Promise 11 for all pits of some more blocks, up to all factors.
func TestNestedPitsOfSomeBlocks(t *testing.T) {
	choice := 0
	eachArcs(4, func(arcs [][]int) {
		choice++
		closures := closureSets(arcs)
		for shift, v := range someYields(4, choice) {
			most := []int{60, 20, 59, 1, 0}[(choice+shift)%5]
			checkNested(t, arcs, v, pitsOfSets(closures, v, most), []int{0, 1, 2, 3, 4, 5, 120})
		}
	})
	for n := 5; n <= 8; n++ {
		for k, arcs := range goodArcs(n, n) {
			closures := closureSets(arcs)
			for shift, v := range someYields(n, k) {
				if (n+k+shift)%3 > 0 {
					continue
				}
				want := pitsOfSets(closures, v, 60)
				checkNested(t, arcs, v, want, fewSizes(want))
			}
		}
	}
}

// manyYields calls back for arcs of up to MaxBlocks blocks with some gains and costs.
func manyYields(see func(arcs [][]int, v yields)) {
	all := slopeArcs()
	for _, n := range []int{10, 30, 60, 120} {
		all = append(all, goodArcs(n, n)...)
	}
	for k, arcs := range all {
		l := someYields(len(arcs), k)
		see(arcs, l[5*k%len(l)])
		if len(arcs) < 100 {
			see(arcs, l[(5*k+7)%len(l)])
		}
	}
}

// Promise 11 for many blocks, where greatest flows that the tests find themselves tell some of the pits: the least factor of many with the same pit, the greatest one, and others.
func TestNestedPitsOfManyBlocks(t *testing.T) {
	at := 0
	manyYields(func(arcs [][]int, v yields) {
		at++
		pits, _ := impl.PitsTo(arcs, v.gains, v.costs, 60)
		if len(pits) != 61 {
			t.Fatal("not all pits", arcs, v, pits)
		}
		factors := []int{0, 1, 60, at % 61}
		if changes, _ := impl.ChangesOf(arcs, v.gains, v.costs, 60); len(changes) > 0 {
			some := changes[at%len(changes)]
			factors = append(factors, changes[0]-1, changes[0], some-1, some, changes[len(changes)-1])
		}
		for _, factor := range factors {
			want, _ := pitsByFlows(arcs, valuesAt(v, factor), nil, validLists(len(arcs))[4])
			checkList(t, fmt.Sprint("a pit of many blocks at ", factor, arcs, v), pits[factor], true, want)
		}
		most := []int{60, at % 61}[at%2]
		sizes := fewSizes(pits)
		checkNested(t, arcs, v, pits[:most+1], []int{sizes[at%len(sizes)], at * 7 % 121})
	})
}

// Each pit of PitsTo is the one of PitAt, and this is BestPit of the FactorValues.
func TestPitsAtAllFactors(t *testing.T) {
	at := 0
	manyYields(func(arcs [][]int, v yields) {
		at++
		pits, ok := impl.PitsTo(arcs, v.gains, v.costs, 60)
		for factor, pit := range pits {
			if (factor+at)%4 > 0 {
				continue
			}
			values, also := impl.FactorValues(v.gains, v.costs, factor)
			checkNumbers(t, "factor values", values, also, valuesAt(v, factor))
			one, also := impl.PitAt(arcs, v.gains, v.costs, factor)
			best, too := impl.BestPit(arcs, values)
			if !ok || !also || !too || !slices.Equal(one, pit) || !slices.Equal(best, pit) {
				t.Error("not the best pit of the values", arcs, v, factor, one, pit, best)
			}
		}
	})
}

// A shorter way has the same pits, shells and values, and those changes and first factors that it reaches.
func TestNestedPitsUpToLessFactors(t *testing.T) {
	for k, arcs := range append(goodArcs(20, 3), slopeArcs()[:4]...) {
		l := someYields(len(arcs), k)
		v := l[(3*k+5)%len(l)]
		pits, _ := impl.PitsTo(arcs, v.gains, v.costs, 60)
		for most := range 61 {
			if (most+k)%3 == 0 || most < 2 {
				checkNested(t, arcs, v, pits[:most+1], []int{(most + k) % 22})
			}
		}
	}
}

func TestNestedPitsAtTheirEdges(t *testing.T) {
	never := slices.Repeat([]int{-1}, 120)
	each := func(change func(i, number int) int) []int { return numbersOf(make([]int, 120), change) }
	under := func(gain, cost int) yields {
		v := yields{make([]int, 120), slices.Repeat([]int{cost}, 120)}
		v.gains[119], v.costs[119] = gain, 0
		return v
	}
	greatest := slices.Repeat([]int{10000}, 120)
	for _, c := range []struct {
		what   string
		arcs   [][]int
		v      yields
		firsts []int
	}{
		{"no gains and no costs", noArcs(3), yields{[]int{0, 0, 0}, []int{0, 0, 0}}, []int{-1, -1, -1}},
		{"no gains", [][]int{nil, {0}, {0, 1}}, yields{[]int{0, 0, 0}, []int{0, 5, 400000}}, []int{-1, -1, -1}},
		{"no gains of 120 blocks", allArcs(120), yields{make([]int, 120), each(func(i, n int) int { return 400000 * (i % 2) })}, never},
		{"a block that costs nothing", [][]int{nil}, yields{[]int{1}, []int{0}}, []int{1}},
		{"the greatest gain without costs", [][]int{nil}, yields{[]int{10000}, []int{0}}, []int{1}},
		{"the greatest gain and cost", [][]int{nil}, yields{[]int{10000}, []int{400000}}, []int{41}},
		{"a little less than the greatest cost", [][]int{nil}, yields{[]int{10000}, []int{399999}}, []int{40}},
		{"a block that pays at MaxFactor", [][]int{nil}, yields{[]int{1}, []int{59}}, []int{60}},
		{"a block that is worth nothing at MaxFactor", [][]int{nil}, yields{[]int{1}, []int{60}}, []int{-1}},
		{"a block that never pays", [][]int{nil}, yields{[]int{1}, []int{400000}}, []int{-1}},
		{"a block without gain and cost above ore", [][]int{nil, {0}}, yields{[]int{0, 1}, []int{0, 0}}, []int{1, 1}},
		{"a block without gain and cost below ore", [][]int{nil, {0}}, yields{[]int{1, 0}, []int{0, 0}}, []int{1, -1}},
		{"the greatest cost above the greatest gain", [][]int{nil, {0}}, yields{[]int{0, 10000}, []int{400000, 0}}, []int{41, 41}},
		{"the greatest cost below the greatest gain", [][]int{nil, {0}}, yields{[]int{10000, 0}, []int{0, 400000}}, []int{1, -1}},
		{"two blocks of waste above ore", [][]int{nil, nil, {0, 1}}, yields{[]int{0, 0, 2}, []int{2, 1, 1}}, []int{3, 3, 3}},
		{"waste above two blocks that pay it together", [][]int{nil, {0}, {0}}, yields{[]int{0, 1, 1}, []int{10, 0, 0}}, []int{6, 6, 6}},
		{"waste above two blocks of which one pays later", [][]int{nil, {0}, {0}}, yields{[]int{0, 2, 1}, []int{10, 0, 30}}, []int{6, 6, 31}},
		{"a block between that pays nothing alone", [][]int{nil, {0}, {1}}, yields{[]int{0, 1, 10}, []int{10, 0, 50}}, []int{6, 6, 6}},
		{"ore that comes alone, and then what is below", [][]int{nil, {0}, {1}}, yields{[]int{2, 0, 1}, []int{4, 20, 20}}, []int{3, 41, 41}},
		{"ore that is kept for no other", [][]int{nil, {0}, {1}}, yields{[]int{2, 0, 1}, []int{4, 20, 40}}, []int{3, -1, -1}},
		{"a cost that is paid just not by two", [][]int{nil, nil, {0}, {0, 1}}, yields{[]int{0, 0, 1, 1}, []int{60, 60, 0, 0}}, []int{-1, -1, -1, -1}},
		{"a cost that is paid just by two", [][]int{nil, nil, {0}, {0, 1}}, yields{[]int{0, 0, 1, 1}, []int{60, 59, 0, 0}}, []int{60, 60, 60, 60}},
		{"a change at each factor", noArcs(120), yields{slices.Repeat([]int{1}, 120), each(func(i, n int) int { return i })}, append(each(func(i, n int) int { return i + 1 })[:60], never[60:]...)},
		{"no change from the first factor to the last", noArcs(3), yields{[]int{1, 1, 1}, []int{0, 59, 60}}, []int{1, 60, -1}},
		{"all blocks at once", allArcs(120), yields{greatest, make([]int, 120)}, slices.Repeat([]int{1}, 120)},
		{"all blocks just too late", noArcs(120), yields{greatest, slices.Repeat([]int{400000}, 120)}, slices.Repeat([]int{41}, 120)},
		{"all arcs, and all blocks just too late", allArcs(120), yields{greatest, slices.Repeat([]int{400000}, 120)}, slices.Repeat([]int{41}, 120)},
		{"ore under 119 blocks without cost", allArcs(120), under(1, 0), slices.Repeat([]int{1}, 120)},
		{"ore under 119 blocks that it pays at last", stepArcs(120, 1), under(10000, 5042), slices.Repeat([]int{60}, 120)},
		{"ore under 119 blocks that it never pays", stepArcs(120, 1), under(10000, 5043), never},
	} {
		for _, most := range []int{0, 1, 2, 5, 6, 40, 41, 59, 60} {
			want := pitsOfFirsts(c.firsts, most)
			if len(c.arcs) < 10 {
				checkNested(t, c.arcs, c.v, want, fewSizes(want))
			} else if most%20 <= 1 {
				checkNested(t, c.arcs, c.v, want, []int{60 + most})
			}
		}
		if firsts, ok := impl.FirstFactors(c.arcs, c.v.gains, c.v.costs, 60); !ok || !slices.Equal(firsts, c.firsts) {
			t.Error(c.what, firsts, ok)
		}
	}
}

// The numbers of blocks are 0, 0, 2, 2, 4, 4, 4 and 5.
func TestNearestPitsAtTheirEdges(t *testing.T) {
	arcs := noArcs(6)
	v := yields{slices.Repeat([]int{1}, 6), []int{1, 1, 3, 3, 6, 100}}
	for _, c := range []struct{ most, size, want int }{
		{60, 0, 0}, {60, 1, 0}, {60, 2, 2}, {60, 3, 2}, {60, 4, 4}, {60, 5, 7}, {60, 6, 7}, {60, 120, 7}, {60, 119, 7},
		{7, 5, 7}, {7, 120, 7}, {6, 5, 4}, {6, 120, 4}, {4, 4, 4}, {3, 4, 2}, {3, 120, 2}, {2, 1, 0}, {2, 2, 2}, {1, 2, 0}, {1, 120, 0}, {0, 0, 0}, {0, 1, 0}, {0, 6, 0}, {0, 120, 0},
	} {
		checkNearest(t, arcs, v, c.most, c.size, c.want)
	}
	// Without gains the first of all pits is as near as any other one.
	for _, size := range []int{0, 1, 6, 120} {
		checkNearest(t, arcs, yields{make([]int, 6), v.costs}, 60, size, 0)
	}
	// A chain comes as a whole: from half of it on, all is nearer than nothing.
	chain := yields{make([]int, 120), slices.Repeat([]int{1}, 120)}
	chain.gains[119] = 20
	for size := range 121 {
		want := 0
		if size > 60 {
			want = 7
		}
		checkNearest(t, stepArcs(120, 1), chain, 60, size, want)
		checkNearest(t, stepArcs(120, 1), chain, 6, size, 0)
	}
}

func TestFactorLimits(t *testing.T) {
	if impl.MaxFactor != 60 {
		t.Error("MaxFactor", impl.MaxFactor)
	}
	v := yields{[]int{10000, 10000, 0, 0, 7}, []int{0, 400000, 0, 400000, 3}}
	for factor := range 61 {
		want := []int{10000 * factor, 10000*factor - 400000, 0, -400000, 7*factor - 3}
		values, ok := impl.FactorValues(v.gains, v.costs, factor)
		checkNumbers(t, "values at a factor", values, ok, want)
	}
	for _, factor := range outside(60) {
		if values, ok := impl.FactorValues(v.gains, v.costs, factor); len(values) != 0 || ok {
			t.Error("values beyond all factors", factor, values, ok)
		}
		checkNothingNested(t, noArcs(5), v, factor, 0)
	}
}

func TestFactorValuesOfManyBlocks(t *testing.T) {
	for n := 1; n <= 120; n++ {
		for k, v := range someYields(n, n) {
			factor := []int{0, 1, 2, 30, 59, 60}[(n+k)%6]
			values, ok := impl.FactorValues(v.gains, v.costs, factor)
			checkNumbers(t, fmt.Sprint("values ", v, factor), values, ok, valuesAt(v, factor))
			if !impl.AreValues(values, n) {
				t.Error("no values of blocks", v, factor, values)
			}
		}
	}
}

// wrongYields are gains and costs of no blocks, of too many, of different numbers of them, or out of range.
func wrongYields() []yields {
	l := []yields{{}, {[]int{}, []int{}}}
	for n := range 123 {
		for _, other := range []int{0, 1, n - 1, n + 1, 2 * n, 120, 121, 1000} {
			if other >= 0 && other != n {
				l = append(l, yields{make([]int, n), make([]int, other)})
			}
		}
		if n > 120 {
			l = append(l, yields{make([]int, n), make([]int, n)})
		}
	}
	for _, n := range []int{1, 2, 3, 60, 120} {
		for _, at := range []int{0, n / 2, n - 1} {
			for _, wrong := range outside(10000) {
				gains := make([]int, n)
				gains[at] = wrong
				l = append(l, yields{gains, make([]int, n)})
			}
			for _, wrong := range outside(400000) {
				costs := make([]int, n)
				costs[at] = wrong
				l = append(l, yields{make([]int, n), costs})
			}
		}
	}
	return l
}

func TestWhatGainsAre(t *testing.T) {
	for n := 1; n <= 120; n++ {
		for _, v := range someYields(n, n) {
			if !impl.AreGains(v.gains, v.costs, n) {
				t.Error("gains and costs are refused", v)
			}
			for _, other := range append(edgeInts(), n-1, n+1, -n) {
				if impl.AreGains(v.gains, v.costs, other) != (other == n) {
					t.Error("AreGains of another number of blocks", v, other)
				}
			}
		}
	}
	for _, v := range wrongYields() {
		for _, n := range append(edgeInts(), len(v.gains), len(v.costs)) {
			if impl.AreGains(v.gains, v.costs, n) {
				t.Error("no gains and costs, but taken", v, n)
			}
		}
	}
	// Only the lengths are as they should be.
	for _, n := range []int{0, 121, 122, 1000} {
		if impl.AreGains(make([]int, n), make([]int, n), n) {
			t.Error("gains of so many blocks:", n)
		}
	}
}

func checkNothingNested(t *testing.T, arcs [][]int, v yields, most, size int) {
	t.Helper()
	for what, call := range nestedFunctions() {
		if l, ok := call(arcs, v.gains, v.costs, most); len(l) != 0 || ok {
			t.Error(what, arcs, v, most, l, ok)
		}
	}
	for what, call := range nestedListsFunctions() {
		if l, ok := call(arcs, v.gains, v.costs, most); len(l) != 0 || ok {
			t.Error(what, arcs, v, most, l, ok)
		}
	}
	checkNoNearest(t, arcs, v, most, size)
}

func checkNoNearest(t *testing.T, arcs [][]int, v yields, most, size int) {
	t.Helper()
	if factor, ok := impl.NearestPit(arcs, v.gains, v.costs, most, size); factor != 0 || ok {
		t.Error("NearestPit", arcs, v, most, size, factor, ok)
	}
}

func TestWrongArcsHaveNoNestedPits(t *testing.T) {
	for k, arcs := range wrongArcs() {
		n := len(arcs)
		for _, v := range []yields{{make([]int, n), make([]int, n)}, {slices.Repeat([]int{9}, n), mixedNumbers(n, 30, k)}} {
			for _, most := range []int{0, 1, 60} {
				checkNothingNested(t, arcs, v, most, k%121)
			}
		}
		checkNothingNested(t, arcs, yields{}, 3, 0)
	}
}

func TestWrongGainsHaveNoNestedPits(t *testing.T) {
	for k, v := range wrongYields() {
		for _, n := range []int{1, 2, 120, len(v.gains), len(v.costs)} {
			checkNothingNested(t, noArcs(n), v, k%61, k%121)
			checkNothingNested(t, stepArcs(n, 1), v, 0, 0)
		}
		for _, factor := range append(outside(60), 0, 1, 60) {
			if values, ok := impl.FactorValues(v.gains, v.costs, factor); len(values) != 0 || ok {
				t.Error("FactorValues", v, factor, values, ok)
			}
		}
	}
	// Gains and costs of other blocks than those of the arcs are valid for FactorValues alone.
	for _, n := range []int{1, 2, 3, 60, 119, 120} {
		for _, other := range []int{1, n - 1, n + 1, 2 * n, 120} {
			if other < 1 || other > 120 || other == n {
				continue
			}
			for k, v := range someYields(other, n) {
				checkNothingNested(t, noArcs(n), v, k, k)
				checkNothingNested(t, allArcs(n), v, 60, 0)
			}
		}
	}
}

func TestWrongFactorsAndSizes(t *testing.T) {
	for _, n := range []int{1, 2, 3, 20, 120} {
		for k, arcs := range goodArcs(n, n) {
			l := someYields(n, k)
			v := l[k%len(l)]
			for _, wrong := range append(outside(60), 61, 120) {
				checkNothingNested(t, arcs, v, wrong, 0)
				checkNothingNested(t, arcs, v, wrong, wrong)
				if values, ok := impl.FactorValues(v.gains, v.costs, wrong); len(values) != 0 || ok {
					t.Error("FactorValues", v, wrong, values, ok)
				}
			}
			for _, wrong := range outside(120) {
				checkNoNearest(t, arcs, v, 0, wrong)
				checkNoNearest(t, arcs, v, 60, wrong)
			}
		}
	}
}

func checkChain(t *testing.T, what string, l [][]int, want, valid bool) {
	t.Helper()
	if is, ok := impl.IsChain(l); is != want || ok != valid {
		t.Errorf("IsChain, %s: %v is %v %v", what, l, is, ok)
	}
}

// isChainByHand asks for each two lists whether the later one has all numbers of the earlier one.
func isChainByHand(l [][]int) bool {
	for k := range l {
		for _, later := range l[k+1:] {
			if !isIn(l[k], later) {
				return false
			}
		}
	}
	return true
}

func TestChainsOfFewNumbers(t *testing.T) {
	for a := range 16 {
		for b := range 16 {
			for c := range 16 {
				l := [][]int{setList(a), setList(b), setList(c), setList(a | c)}
				for n := range 5 {
					checkChain(t, "few numbers", l[:n], isChainByHand(l[:n]), true)
				}
			}
		}
	}
}

// growingLists has so many lists, of which each has one number more than the one before it, up to the greatest number.
func growingLists(count int) [][]int {
	var l [][]int
	for k := range count {
		l = append(l, validLists(120)[4][119-k:])
	}
	return l
}

func TestChainsAtTheirEdges(t *testing.T) {
	all := validLists(120)[4]
	growing := growingLists(61)
	shrinking := copyArcs(growing)
	slices.Reverse(shrinking)
	swapped := copyArcs(growing)
	swapped[59], swapped[60] = swapped[60], swapped[59]
	for _, c := range []struct {
		what string
		l    [][]int
		want bool
	}{
		{"no list", nil, true}, {"no list", [][]int{}, true},
		{"one empty list", [][]int{nil}, true}, {"one empty list", [][]int{{}}, true},
		{"one list", [][]int{{3, 5, 119}}, true}, {"one list of all numbers", [][]int{all}, true},
		{"equal lists", [][]int{{0, 119}, {0, 119}, {0, 119}}, true}, {"equal empty lists", [][]int{nil, {}, nil}, true},
		{"an empty list first", [][]int{{}, {0}}, true}, {"an empty list last", [][]int{{0}, {}}, false}, {"an empty list between", [][]int{{0}, nil, {0}}, false},
		{"61 empty lists", make([][]int, 61), true}, {"61 equal lists", slices.Repeat([][]int{all}, 61), true},
		{"61 growing lists", growing, true}, {"61 shrinking lists", shrinking, false}, {"the last two of 61 lists", swapped, false},
		{"the first two of 61 lists", append([][]int{{1}, {0}}, slices.Repeat([][]int{all}, 59)...), false},
		{"a number that goes at last", [][]int{{1}, {0, 1}, {1}}, false}, {"a number that comes back", [][]int{{1}, {0}, {0, 1}}, false},
		{"the least number is lost", [][]int{{0, 5}, {1, 5, 119}}, false}, {"the greatest number is lost", [][]int{{0, 119}, {0, 1, 118}}, false},
		{"as many numbers, but others", [][]int{{0, 2}, {0, 3}}, false},
	} {
		checkChain(t, c.what, c.l, c.want, true)
	}
	for _, count := range []int{62, 63, 120, 1000} {
		checkChain(t, "too many empty lists", make([][]int, count), false, false)
		checkChain(t, "too many equal lists", slices.Repeat([][]int{{7}}, count), false, false)
		checkChain(t, "too many growing lists", growingLists(min(count, 120)), false, false)
	}
}

func TestWrongListsAreNoChain(t *testing.T) {
	for _, wrong := range append(wrongLists(120), []int{120}, []int{-1}, []int{118, 120}, []int{5, 4}, []int{5, 5}, make([]int, 2)) {
		for _, l := range [][][]int{
			{wrong}, {nil, wrong}, {wrong, nil}, {wrong, wrong}, {{1}, {0}, wrong}, {wrong, {1}, {0}}, {nil, wrong, validLists(120)[4]},
			append(make([][]int, 60), wrong), append([][]int{wrong}, make([][]int, 60)...), append(make([][]int, 61), wrong),
		} {
			checkChain(t, "a list that is not valid", l, false, false)
		}
	}
	for _, a := range edgeInts() {
		for _, b := range edgeInts() {
			isList := a >= 0 && a < b && b <= 119
			checkChain(t, "two numbers", [][]int{{a, b}}, isList, isList)
			isChain := a >= 0 && a <= 119 && b >= 0 && b <= 119
			checkChain(t, "two lists", [][]int{{a}, {b}}, isChain && a == b, isChain)
		}
	}
}

// useNested calls all functions of chapter 11, and writes into everything that they return, so that shared memory shows.
func useNested(arcs [][]int, v yields, most, size int) {
	impl.AreGains(v.gains, v.costs, size)
	impl.NearestPit(arcs, v.gains, v.costs, most, size)
	impl.IsChain(arcs)
	values, _ := impl.FactorValues(v.gains, v.costs, most)
	spoilList(values)
	for _, call := range nestedFunctions() {
		l, _ := call(arcs, v.gains, v.costs, most)
		spoilList(l)
	}
	for _, call := range nestedListsFunctions() {
		lists, _ := call(arcs, v.gains, v.costs, most)
		for _, l := range lists {
			spoilList(l)
		}
		clear(lists[:cap(lists)])
	}
}

// Promise 33: no argument makes a function of chapter 11 panic.
func TestNestedPitsNeverPanic(t *testing.T) {
	all := wrongArcs()
	for _, n := range []int{1, 3, 20, 120} {
		all = append(all, goodArcs(n, n)...)
	}
	numbers := append(edgeInts(), 2, 30, 60, 61)
	wrong := wrongYields()
	for k, arcs := range all {
		own := append(someYields(max(len(arcs), 1), k), wrong[k%len(wrong)], wrong[(31*k+7)%len(wrong)])
		for shift := range 3 {
			at := 3*k + shift
			v, most, size := own[(5*at+1)%len(own)], numbers[at%len(numbers)], numbers[(7*at+3)%len(numbers)]
			noPanic(t, fmt.Sprint("a function of arcs by their number ", k, v, most, size), func() {
				useNested(arcs, v, most, size)
				useNested(arcs, yields{v.costs, v.gains}, at%64, at%123)
			})
		}
	}
	for _, x := range numbers {
		for _, y := range numbers {
			noPanic(t, fmt.Sprint("a function of the numbers ", x, y), func() {
				for _, arcs := range [][][]int{nil, {{x}}, {nil, {x, y}}, {{y}, {x}}, {{x, y}, {x}}, noArcs(1), noArcs(2), allArcs(2)} {
					useNested(arcs, yields{[]int{1, 2}, []int{2, 3}}, x, y)
					useNested(arcs, yields{[]int{x, y}, []int{y, x}}, y, x)
					useNested(arcs, yields{[]int{x}, []int{y}}, 4, 1)
				}
			})
		}
	}
	for _, lists := range [][][]int{wrongLists(120), wrongLists(1), make([][]int, 1000), growingLists(120)} {
		noPanic(t, "IsChain", func() { impl.IsChain(lists) })
	}
}

// Promise 33: no function of chapter 11 changes its arguments or what lies behind them.
func TestNestedArgumentsStay(t *testing.T) {
	all := wrongArcs()[:80]
	for _, n := range []int{1, 3, 20, 120} {
		all = append(all, goodArcs(n, n)...)
	}
	for k, given := range all {
		for at, own := range someYields(max(1, len(given)), k) {
			if (at+k)%3 > 0 {
				continue
			}
			arcs, memory := roomyArcs(given)
			var v yields
			var wholeGains, wholeCosts []int
			v.gains, wholeGains = roomy(own.gains)
			v.costs, wholeCosts = roomy(own.costs)
			before, kept := memory(), copyArcs([][]int{wholeGains, wholeCosts})
			useNested(arcs, v, []int{60, at, 61, 0}[k%4], at)
			if !sameArcs(memory(), before) || !sameArcs([][]int{wholeGains, wholeCosts}, kept) {
				t.Fatal("an argument is changed", given, own)
			}
		}
	}
	for _, given := range [][][]int{growingLists(61), growingLists(62), {{1}, {0, 1}, {1}}, {{3, 2}, {9}}, make([][]int, 3)} {
		lists, memory := roomyArcs(given)
		before := memory()
		impl.IsChain(lists)
		if !sameArcs(memory(), before) {
			t.Fatal("a list is changed", given)
		}
	}
}

// Promise 33: results are new memory, and no two lists of one result share it.
func TestNestedResultsAreNew(t *testing.T) {
	for _, n := range []int{1, 3, 20, 120} {
		for k, arcs := range goodArcs(n, n) {
			l := someYields(n, k)
			v := l[(k+2)%len(l)]
			kept, keptYields := copyArcs(arcs), copyArcs([][]int{v.gains, v.costs})
			checkFresh(t, "FactorValues", func() []int { values, _ := impl.FactorValues(v.gains, v.costs, 0); return values })
			for what, call := range nestedFunctions() {
				checkFresh(t, what, func() []int { l, _ := call(arcs, v.gains, v.costs, 60); return l })
			}
			for what, call := range nestedListsFunctions() {
				lists, _ := call(arcs, v.gains, v.costs, 60)
				want := copyArcs(lists)
				checkApart(t, what, lists, want)
				if again, ok := call(arcs, v.gains, v.costs, 60); !ok || len(again) != 61 || !sameArcs(again, want) {
					t.Error(what, "a changed result changes a later one", arcs, v, again)
				}
			}
			if !sameArcs(arcs, kept) || !sameArcs([][]int{v.gains, v.costs}, keptYields) {
				t.Fatal("a result shares memory with an argument", arcs, v)
			}
		}
	}
}
