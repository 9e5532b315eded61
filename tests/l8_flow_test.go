package tests

import (
	"fmt"
	"math"
	"slices"
	"testing"

	"loop.example/g00914/impl"
)

type network struct {
	n int
	l []impl.Edge
}

func edge(from, to, capacity int) impl.Edge { return impl.Edge{From: from, To: to, Cap: capacity} }

func net(n int, l ...impl.Edge) network { return network{n, l} }

// netWhere has an edge for each two nodes for which there is a capacity that is not negative.
func netWhere(n int, capacity func(from, to int) int) network {
	w := network{n: n}
	for from := range n {
		for to := range n {
			if c := capacity(from, to); c >= 0 {
				w.l = append(w.l, edge(from, to, c))
			}
		}
	}
	return w
}

// chainNet leads from each node to the next one.
func chainNet(n int, capacity func(from int) int) network {
	return netWhere(n, func(from, to int) int {
		if to != from+1 {
			return -1
		}
		return capacity(from)
	})
}

// fanNet leads from the source to each inner node, and on to the sink.
func fanNet(n, in, out int) network {
	return netWhere(n, func(from, to int) int {
		switch {
		case from == 0 && to > 0 && to < n-1:
			return in
		case from > 0 && from < n-1 && to == n-1:
			return out
		}
		return -1
	})
}

func manyEdges(n, count int, e impl.Edge) network {
	return network{n, slices.Repeat([]impl.Edge{e}, count)}
}

// mixedNet has edges between any two nodes, also loops, and many with the least and the greatest capacity.
func mixedNet(n, count, most, seed int) network {
	next := numbersFrom(uint64(seed))
	w := network{n: n}
	for range count {
		w.l = append(w.l, edge(next(n-1), next(n-1), next(most)))
	}
	return w
}

// layeredNet has mixed edges from one layer of nodes to the next one, so that ways are long and many of them lead nowhere.
func layeredNet(n, width, most, seed int) network {
	next := numbersFrom(uint64(seed))
	layer := func(node int) int { return (node + width - 1) / width }
	return netWhere(n, func(from, to int) int {
		if layer(to) != layer(from)+1 && (to != n-1 || layer(to) != layer(from)) || next(5) == 2 {
			return -1
		}
		return next(most)
	})
}

// fewNodes are networks all of whose cuts can be looked at.
func fewNodes() []network {
	var l []network
	for n := 2; n <= 9; n++ {
		for k, most := range []int{0, 1, 2, 3, 10, 1000, 1000000000} {
			for _, count := range []int{0, 1, 2, n, 2 * n, 4 * n, 60} {
				l = append(l, mixedNet(n, count, most, 100*n+10*k+count))
			}
			l = append(l, layeredNet(n, 1+n/3, most, n+k), layeredNet(n, 2, most, n+2*k), fanNet(n, most, most), fanNet(n, 2, most))
			l = append(l, chainNet(n, func(from int) int { return most - min(most, from%3) }))
			l = append(l, netWhere(n, func(from, to int) int { return most }))
		}
	}
	return l
}

// manyNodes are networks up to MaxFlowNodes and MaxEdges.
func manyNodes() []network {
	var l []network
	for k, n := range []int{2, 3, 10, 30, 44, 129, 130} {
		for _, most := range []int{0, 1, 7, 1000, 1000000000} {
			l = append(l, mixedNet(n, 2*n, most, n+most), mixedNet(n, 2000, most, n+most+1), mixedNet(n, 500, most, k))
			l = append(l, layeredNet(n, 4, most, n), layeredNet(n, 11, most, k), fanNet(n, most, most), fanNet(n, most, 3))
			l = append(l, chainNet(n, func(from int) int { return most - min(most, from%5) }))
			l = append(l, manyEdges(n, 2000, edge(0, n-1, most)), network{n: n})
			if n <= 44 {
				l = append(l, netWhere(n, func(from, to int) int { return (most + 7*from + 3*to) % (most + 1) }))
			}
		}
	}
	return l
}

// wrongNets have too few or too many nodes or edges, nodes that there are not, or capacities out of range.
func wrongNets() []network {
	l := []network{net(1, edge(0, 0, 1)), net(131, edge(0, 130, 1)), manyEdges(2, 2001, edge(0, 1, 1)), manyEdges(130, 2001, edge(0, 129, 0)), manyEdges(2, 100000, edge(0, 1, 1))}
	for _, n := range append(outside(130), 0, 1) {
		l = append(l, net(n), net(n, edge(0, 1, 1)), net(n, edge(0, n-1, 1)))
	}
	for _, n := range []int{2, 3, 130} {
		for _, w := range []network{net(n, edge(0, n-1, 5)), mixedNet(n, 3*n, 9, n), manyEdges(n, 2000, edge(0, n-1, 1000000000))} {
			for _, at := range []int{0, len(w.l) / 2, len(w.l) - 1} {
				for _, node := range outside(n - 1) {
					l = append(l, withEdge(w, at, edge(node, 0, 1)), withEdge(w, at, edge(0, node, 1)), withEdge(w, at, edge(node, node, 0)))
				}
				for _, capacity := range outside(1000000000) {
					l = append(l, withEdge(w, at, edge(0, n-1, capacity)), withEdge(w, at, edge(n-1, n-1, capacity)))
				}
			}
		}
	}
	return l
}

// withEdge has another edge at one place.
func withEdge(w network, k int, e impl.Edge) network {
	l := slices.Clone(w.l)
	l[k] = e
	return network{w.n, l}
}

func isNetByHand(w network) bool {
	if w.n < 2 || w.n > 130 || len(w.l) > 2000 {
		return false
	}
	return !slices.ContainsFunc(w.l, func(e impl.Edge) bool {
		return min(e.From, e.To, e.Cap) < 0 || max(e.From, e.To) >= w.n || e.Cap > 1000000000
	})
}

// areFlowsByHand looks at each node of a network and adds up over all edges.
func areFlowsByHand(w network, flows []int) bool {
	if len(flows) != len(w.l) {
		return false
	}
	for k, e := range w.l {
		if flows[k] < 0 || flows[k] > e.Cap {
			return false
		}
	}
	for node := 1; node < w.n-1; node++ {
		if into, from := flowsAt(w, flows, node); into != from {
			return false
		}
	}
	return true
}

func flowsAt(w network, flows []int, node int) (into, from int) {
	for k, e := range w.l {
		if e.To == node {
			into += flows[k]
		}
		if e.From == node {
			from += flows[k]
		}
	}
	return into, from
}

// valueByHand needs flows.
func valueByHand(w network, flows []int) int {
	into, from := flowsAt(w, flows, 0)
	return from - into
}

// cutByHand adds up the capacities of all edges that lead out of a list of nodes.
func cutByHand(w network, nodes []int) int {
	sum := 0
	for _, e := range w.l {
		if slices.Contains(nodes, e.From) && !slices.Contains(nodes, e.To) {
			sum += e.Cap
		}
	}
	return sum
}

// cutsByHand looks at all cuts, as sets of bits. It returns the least value, and the nodes that all cuts with this value and that some of them have.
func cutsByHand(w network) (value, least, greatest int) {
	value = math.MaxInt
	for inner := range 1 << (w.n - 2) {
		cut, sum := 1|inner<<1, 0
		for _, e := range w.l {
			sum += e.Cap * (cut >> e.From & 1) * (1 - cut>>e.To&1)
		}
		if sum < value {
			value, least, greatest = sum, cut, cut
		}
		if sum == value {
			least &= cut
			greatest |= cut
		}
	}
	return value, least, greatest
}

// canFlow tells whether more can flow over edge k, or back over it.
func canFlow(w network, flows []int, k int) (on, back bool) {
	return flows[k] < w.l[k].Cap, flows[k] > 0
}

// spreadByHand looks at all edges again and again. It returns for each node that more can reach from a start the edge that it comes over, plus 1, and less than 0 if this leads back; the start comes over more edges than there are.
func spreadByHand(w network, flows []int, start int) []int {
	over := make([]int, w.n)
	over[start] = len(w.l) + 1
	for changed := true; changed; {
		changed = false
		before := slices.Clone(over)
		for k, e := range w.l {
			on, back := canFlow(w, flows, k)
			if on && before[e.From] != 0 && over[e.To] == 0 {
				over[e.To], changed = k+1, true
			}
			if back && before[e.To] != 0 && over[e.From] == 0 {
				over[e.From], changed = -k-1, true
			}
		}
	}
	return over
}

// flowsByHand are greatest flows: one way after the other is filled by what it has room for.
func flowsByHand(w network) []int {
	flows := make([]int, len(w.l))
	for {
		over := spreadByHand(w, flows, 0)
		if over[w.n-1] == 0 {
			return flows
		}
		amount := math.MaxInt
		eachStepBack(w, over, func(k, way int) {
			if way > 0 {
				amount = min(amount, w.l[k].Cap-flows[k])
			} else {
				amount = min(amount, flows[k])
			}
		})
		eachStepBack(w, over, func(k, way int) { flows[k] += way * amount })
	}
}

// eachStepBack goes from the sink to the source by the edges that nodes come over.
func eachStepBack(w network, over []int, see func(k, way int)) {
	for node := w.n - 1; node != 0; {
		if k := over[node]; k > 0 {
			see(k-1, 1)
			node = w.l[k-1].From
		} else {
			see(-k-1, -1)
			node = w.l[-k-1].To
		}
	}
}

// turnByHand mirrors nodes and turns edges.
func turnByHand(w network) network {
	t := network{n: w.n}
	for _, e := range w.l {
		t.l = append(t.l, edge(w.n-1-e.To, w.n-1-e.From, e.Cap))
	}
	return t
}

func mirrored(n int, nodes []int) []int {
	return numbersWhere(n, func(node int) bool { return slices.Contains(nodes, n-1-node) })
}

// raised has another capacity for one edge.
func raised(w network, k, more int) network {
	e := w.l[k]
	e.Cap += more
	return withEdge(w, k, e)
}

// leastOfCuts is the least value of all cuts of a network of few nodes.
func leastOfCuts(w network) int {
	value, _, _ := cutsByHand(w)
	return value
}

// checkEdge demands what is wanted of an edge, as far as its capacity may be another one.
func checkEdge(t *testing.T, w network, k int, wantMends, wantBlocks bool) {
	t.Helper()
	mends, ok := impl.MendsFlow(w.n, w.l, k)
	if open := w.l[k].Cap < 1000000000; ok != open || mends != (open && wantMends) {
		t.Error("MendsFlow", w, k, mends, ok)
	}
	blocks, ok := impl.BlocksFlow(w.n, w.l, k)
	if open := w.l[k].Cap > 0; ok != open || blocks != (open && wantBlocks) {
		t.Error("BlocksFlow", w, k, blocks, ok)
	}
}

// checkCuts demands promise 8 of the results for a network, and returns them.
func checkCuts(t *testing.T, w network) (int, []int, []int) {
	t.Helper()
	value, ok := impl.GreatestFlow(w.n, w.l)
	least, also := impl.LeastCut(w.n, w.l)
	greatest, too := impl.GreatestCut(w.n, w.l)
	if !ok || !also || !too {
		t.Fatal("no greatest flow and no cuts", w, ok, also, too)
	}
	for _, cut := range [][]int{least, greatest} {
		if sum, ok := impl.CutValue(w.n, w.l, cut); sum != value || !ok || cutByHand(w, cut) != value {
			t.Error("the greatest flow is not the value of a cut", w, value, cut, sum, ok)
		}
	}
	if !isIn(least, greatest) {
		t.Error("the least cut is not in the greatest one", w, least, greatest)
	}
	return value, least, greatest
}

func TestFlowExample(t *testing.T) {
	l, ok := impl.LeastCut(2, []impl.Edge{edge(0, 1, 1)})
	checkList(t, "least cut of one edge", l, ok, []int{0})
	w := net(4, edge(0, 1, 3), edge(0, 2, 2), edge(1, 3, 2), edge(2, 3, 3), edge(1, 2, 1))
	value, least, greatest := checkCuts(t, w)
	if value != 5 || !slices.Equal(least, []int{0}) || !slices.Equal(greatest, []int{0, 1, 2}) {
		t.Error("flow and cuts", value, least, greatest)
	}
	if n, ok := impl.FlowValue(4, w.l, []int{3, 2, 2, 3, 1}); n != 5 || !ok {
		t.Error("value", n, ok)
	}
}

func TestNetworkLimits(t *testing.T) {
	if impl.MaxFlowNodes != 130 || impl.MaxEdges != 2000 || impl.MaxCap != 1000000000 {
		t.Error("limits", impl.MaxFlowNodes, impl.MaxEdges, impl.MaxCap)
	}
	for _, w := range append(fewNodes(), manyNodes()...) {
		if !impl.IsNetwork(w.n, w.l) || !isNetByHand(w) {
			t.Error("a network is refused", w)
		}
	}
	for _, w := range wrongNets() {
		if impl.IsNetwork(w.n, w.l) || isNetByHand(w) {
			t.Error("no network, but taken", w)
		}
	}
	for n := -3; n <= 135; n++ {
		if impl.IsNetwork(n, nil) != (n >= 2 && n <= 130) {
			t.Error("IsNetwork is wrong about so many nodes:", n)
		}
		for from := -2; from <= 133; from++ {
			for _, w := range []network{net(n, edge(from, 0, 1)), net(n, edge(0, from, 1)), net(n, edge(from, from, 0)), net(n, edge(0, 0, 0), edge(from, 0, 1))} {
				if impl.IsNetwork(w.n, w.l) != isNetByHand(w) {
					t.Error("IsNetwork is wrong about", w)
				}
			}
		}
	}
	for count := 1990; count <= 2010; count++ {
		if w := manyEdges(2, count, edge(0, 1, 1)); impl.IsNetwork(w.n, w.l) != (count <= 2000) {
			t.Error("IsNetwork is wrong about so many edges:", count)
		}
	}
	for _, capacity := range append(edgeInts(), 999999999, 1000000000, 1000000001) {
		if impl.IsNetwork(2, []impl.Edge{edge(0, 1, capacity)}) != (capacity >= 0 && capacity <= 1000000000) {
			t.Error("IsNetwork is wrong about the capacity", capacity)
		}
	}
}

// eachNet has all networks of n nodes and so many edges.
func eachNet(n, count, most int, see func(network)) {
	w := network{n: n, l: make([]impl.Edge, count)}
	kinds := n * n * (most + 1)
	all := 1
	for range count {
		all *= kinds
	}
	for choice := range all {
		for k := range w.l {
			w.l[k] = edge(choice%n, choice/n%n, choice/n/n%(most+1))
			choice /= kinds
		}
		see(w)
	}
}

// eachFlows has all lists of numbers from -1 to one more than the capacities.
func eachFlows(w network, see func([]int)) {
	flows := slices.Repeat([]int{-1}, len(w.l))
	for {
		see(flows)
		k := 0
		for k < len(flows) && flows[k] > w.l[k].Cap {
			flows[k] = -1
			k++
		}
		if k == len(flows) {
			return
		}
		flows[k]++
	}
}

// checkAllFlows demands what the document says of all lists of flows, and returns their greatest value.
func checkAllFlows(t *testing.T, w network) int {
	t.Helper()
	most := math.MinInt
	eachFlows(w, func(flows []int) {
		want := areFlowsByHand(w, flows)
		if is, ok := impl.IsFlow(w.n, w.l, flows); is != want || !ok {
			t.Error("IsFlow", w, flows, is, ok)
		}
		value := 0
		if want {
			value = valueByHand(w, flows)
			most = max(most, value)
		}
		if got, ok := impl.FlowValue(w.n, w.l, flows); got != value || ok != want {
			t.Error("FlowValue", w, flows, got, ok)
		}
	})
	return most
}

// Promise 8 for all networks of few nodes and edges, with all their flows and cuts.
func TestAllFlowsOfFewEdges(t *testing.T) {
	for _, c := range []struct{ n, count, most int }{{2, 0, 0}, {2, 1, 3}, {2, 2, 2}, {2, 3, 2}, {3, 0, 0}, {3, 1, 2}, {3, 2, 2}, {3, 3, 1}, {4, 1, 2}, {4, 2, 2}, {4, 3, 1}, {5, 2, 1}} {
		eachNet(c.n, c.count, c.most, func(w network) {
			most := checkAllFlows(t, w)
			value, least, greatest := checkCuts(t, w)
			wantValue, wantLeast, wantGreatest := cutsByHand(w)
			if value != most || value != wantValue || !slices.Equal(least, setList(wantLeast)) || !slices.Equal(greatest, setList(wantGreatest)) {
				t.Fatal("greatest flow and cuts", w, value, least, greatest, "not", most, wantValue, setList(wantLeast), setList(wantGreatest))
			}
			for k := range w.l {
				checkEdge(t, w, k, leastOfCuts(raised(w, k, 1)) > value, leastOfCuts(raised(w, k, -1)) < value)
			}
		})
	}
}

// Promise 8 for all cuts of networks of few nodes.
func TestAllCutsOfFewNodes(t *testing.T) {
	for _, w := range fewNodes() {
		value, least, greatest := checkCuts(t, w)
		wantValue, wantLeast, wantGreatest := cutsByHand(w)
		if value != wantValue || !slices.Equal(least, setList(wantLeast)) || !slices.Equal(greatest, setList(wantGreatest)) {
			t.Fatal("greatest flow and cuts", w, value, least, greatest, "not", wantValue, setList(wantLeast), setList(wantGreatest))
		}
		for inner := range 1 << (w.n - 2) {
			cut := setList(1 | inner<<1)
			sum, ok := impl.CutValue(w.n, w.l, cut)
			if !ok || sum != cutByHand(w, cut) || sum < value {
				t.Error("CutValue", w, cut, sum, ok)
			}
			if sum == value && (!isIn(least, cut) || !isIn(cut, greatest)) {
				t.Error("a cut of least value is not between the least and the greatest one", w, least, cut, greatest)
			}
		}
		for k := range min(len(w.l), 12) {
			checkEdge(t, w, k, leastOfCuts(raised(w, k, 1)) > value, leastOfCuts(raised(w, k, -1)) < value)
		}
	}
}

// someCuts are those of the source alone and of all nodes but the sink, and cuts between them.
func someCuts(n, seed int) [][]int {
	l := [][]int{{0}, numbersWhere(n-1, func(int) bool { return true })}
	for k := range 4 {
		next := numbersFrom(uint64(seed + k))
		l = append(l, numbersWhere(n-1, func(node int) bool { return node == 0 || next(2) == 1 }))
	}
	for node := 1; node < n-1; node += 1 + n/5 {
		l = append(l, []int{0, node}, without(l[1], node))
	}
	return l
}

// Promise 8 up to MaxFlowNodes nodes and MaxEdges edges, against greatest flows that are found in another way.
func TestFlowsOfManyNodes(t *testing.T) {
	for seed, w := range manyNodes() {
		value, least, greatest := checkCuts(t, w)
		flows := flowsByHand(w)
		if is, ok := impl.IsFlow(w.n, w.l, flows); !is || !ok || !areFlowsByHand(w, flows) {
			t.Fatal("IsFlow", w, flows, is, ok)
		}
		if got, ok := impl.FlowValue(w.n, w.l, flows); got != value || !ok {
			t.Error("the value of greatest flows is not the greatest one", w, got, ok, value)
		}
		on, fed := spreadByHand(w, flows, 0), fedByHand(w, flows)
		if !slices.Equal(least, numbersWhere(w.n, func(node int) bool { return on[node] != 0 })) {
			t.Error("least cut", w, least)
		}
		if !slices.Equal(greatest, numbersWhere(w.n, func(node int) bool { return !fed[node] })) {
			t.Error("greatest cut", w, greatest)
		}
		for _, cut := range someCuts(w.n, seed) {
			sum, ok := impl.CutValue(w.n, w.l, cut)
			if !ok || sum != cutByHand(w, cut) || sum < value {
				t.Error("CutValue", w, cut, sum, ok)
			}
		}
		for k := 0; k < len(w.l); k += 1 + len(w.l)/9 {
			e := w.l[k]
			// What cannot flow over this edge can take another way if there is room from its beginning to its end.
			full := spreadByHand(w, flows, e.From)[e.To] == 0
			checkEdge(t, w, k, on[e.From] != 0 && fed[e.To], full && flows[k] == e.Cap)
		}
	}
}

// fedByHand has the nodes from which more can flow to the sink.
func fedByHand(w network, flows []int) []bool {
	fed := make([]bool, w.n)
	fed[w.n-1] = true
	for changed := true; changed; {
		changed = false
		for k, e := range w.l {
			on, back := canFlow(w, flows, k)
			if on && fed[e.To] && !fed[e.From] {
				fed[e.From], changed = true, true
			}
			if back && fed[e.From] && !fed[e.To] {
				fed[e.To], changed = true, true
			}
		}
	}
	return fed
}

func TestGreatestFlowsAtTheirEdges(t *testing.T) {
	every := func(n int) []int { return numbersWhere(n-1, func(int) bool { return true }) }
	ladder := net(4, edge(0, 1, 1), edge(1, 2, 1), edge(2, 3, 1), edge(0, 2, 1), edge(1, 3, 1))
	for _, c := range []struct {
		what     string
		w        network
		value    int
		least    []int
		greatest []int
	}{
		{"no edges of 2 nodes", net(2), 0, []int{0}, []int{0}},
		{"no edges of 4 nodes", net(4), 0, []int{0}, []int{0, 1, 2}},
		{"no edges of MaxFlowNodes nodes", net(130), 0, []int{0}, every(130)},
		{"one edge", net(2, edge(0, 1, 7)), 7, []int{0}, []int{0}},
		{"one edge of capacity 0", net(2, edge(0, 1, 0)), 0, []int{0}, []int{0}},
		{"one edge of capacity MaxCap", net(2, edge(0, 1, 1000000000)), 1000000000, []int{0}, []int{0}},
		{"one edge from the sink to the source", net(2, edge(1, 0, 7)), 0, []int{0}, []int{0}},
		{"edges both ways", net(2, edge(1, 0, 7), edge(0, 1, 4)), 4, []int{0}, []int{0}},
		{"several edges between the same two nodes", net(2, edge(0, 1, 4), edge(0, 1, 0), edge(0, 1, 5)), 9, []int{0}, []int{0}},
		{"several edges in a chain", net(3, edge(0, 1, 4), edge(1, 2, 3), edge(0, 1, 5), edge(1, 2, 3)), 6, []int{0, 1}, []int{0, 1}},
		{"from the source to itself", net(3, edge(0, 0, 9), edge(0, 1, 2), edge(1, 2, 3)), 2, []int{0}, []int{0}},
		{"from the sink to itself", net(3, edge(2, 2, 9), edge(0, 1, 4), edge(1, 2, 3)), 3, []int{0, 1}, []int{0, 1}},
		{"from an inner node to itself", net(3, edge(1, 1, 9), edge(0, 1, 3), edge(1, 2, 3)), 3, []int{0}, []int{0, 1}},
		{"edges that start at the sink", net(4, edge(3, 1, 9), edge(3, 0, 9), edge(0, 1, 2), edge(1, 2, 9), edge(2, 3, 1)), 1, []int{0, 1, 2}, []int{0, 1, 2}},
		{"edges that lead to the source", net(4, edge(1, 0, 9), edge(3, 0, 9), edge(2, 0, 9), edge(0, 1, 2), edge(1, 2, 9), edge(2, 3, 5)), 2, []int{0}, []int{0}},
		{"an unconnected sink", net(4, edge(0, 1, 9), edge(1, 2, 9)), 0, []int{0, 1, 2}, []int{0, 1, 2}},
		{"an unconnected sink and node", net(5, edge(0, 1, 9), edge(1, 2, 9)), 0, []int{0, 1, 2}, []int{0, 1, 2, 3}},
		{"an unconnected source", net(4, edge(1, 2, 9), edge(2, 3, 9)), 0, []int{0}, []int{0}},
		{"an inner node that leads nowhere", net(4, edge(0, 1, 2), edge(0, 2, 9), edge(1, 3, 2)), 2, []int{0, 2}, []int{0, 1, 2}},
		{"an inner node to which nothing leads", net(4, edge(0, 1, 2), edge(2, 3, 9), edge(1, 3, 2)), 2, []int{0}, []int{0, 1}},
		{"a gap of capacity 0", net(4, edge(0, 1, 9), edge(1, 2, 0), edge(2, 3, 9)), 0, []int{0, 1}, []int{0, 1}},
		{"a chain that is narrow at the source", net(4, edge(0, 1, 1), edge(1, 2, 2), edge(2, 3, 3)), 1, []int{0}, []int{0}},
		{"a chain that is narrow in the middle", net(4, edge(0, 1, 5), edge(1, 2, 3), edge(2, 3, 5)), 3, []int{0, 1}, []int{0, 1}},
		{"a chain that is narrow at the sink", net(4, edge(0, 1, 3), edge(1, 2, 2), edge(2, 3, 1)), 1, []int{0, 1, 2}, []int{0, 1, 2}},
		{"a chain that is narrow twice", net(5, edge(0, 1, 5), edge(1, 2, 3), edge(2, 3, 5), edge(3, 4, 3)), 3, []int{0, 1}, []int{0, 1, 2, 3}},
		{"an even chain", net(4, edge(0, 1, 3), edge(1, 2, 3), edge(2, 3, 3)), 3, []int{0}, []int{0, 1, 2}},
		{"nodes in another order", net(5, edge(0, 3, 2), edge(3, 1, 9), edge(1, 4, 2), edge(3, 2, 9)), 2, []int{0}, []int{0, 1, 2, 3}},
		{"a way that must be taken back", ladder, 2, []int{0}, []int{0, 1, 2}},
		{"a circle beside the way", net(5, edge(1, 2, 9), edge(2, 3, 9), edge(3, 1, 9), edge(0, 4, 3)), 3, []int{0}, []int{0, 1, 2, 3}},
		{"a circle over the source", net(3, edge(0, 1, 5), edge(1, 0, 5), edge(1, 2, 4)), 4, []int{0, 1}, []int{0, 1}},
		{"a circle over the sink", net(3, edge(0, 1, 3), edge(1, 2, 5), edge(2, 1, 5)), 3, []int{0}, []int{0}},
		{"MaxEdges edges of capacity MaxCap", manyEdges(2, 2000, edge(0, 1, 1000000000)), 2000000000000, []int{0}, []int{0}},
		{"MaxEdges edges from the sink", manyEdges(3, 2000, edge(2, 0, 1000000000)), 0, []int{0}, []int{0, 1}},
		{"MaxEdges edges from a node to itself", manyEdges(3, 2000, edge(1, 1, 1000000000)), 0, []int{0}, []int{0, 1}},
		{"MaxEdges edges of capacity 0", manyEdges(130, 2000, edge(0, 129, 0)), 0, []int{0}, every(130)},
		{"a fan of MaxFlowNodes nodes", fanNet(130, 1000000000, 1000000000), 128000000000, []int{0}, every(130)},
		{"a fan that is narrow at the source", fanNet(130, 999999999, 1000000000), 127999999872, []int{0}, []int{0}},
		{"a fan that is narrow at the sink", fanNet(130, 1000000000, 999999999), 127999999872, every(130), every(130)},
		{"a chain of MaxFlowNodes nodes", chainNet(130, func(int) int { return 1000000000 }), 1000000000, []int{0}, every(130)},
		{"a long chain that is narrow in the middle", chainNet(130, func(from int) int { return 5 + apart(from, 64) }), 5, every(66), every(66)},
	} {
		value, least, greatest := checkCuts(t, c.w)
		if value != c.value {
			t.Error(c.what, "greatest flow", value, "not", c.value)
		}
		checkList(t, c.what+": least cut", least, true, c.least)
		checkList(t, c.what+": greatest cut", greatest, true, c.greatest)
	}
}

func TestFlowListsAtTheirEdges(t *testing.T) {
	way := net(3, edge(0, 1, 5), edge(1, 2, 5))
	split := net(4, edge(0, 1, 3), edge(0, 2, 2), edge(1, 3, 2), edge(2, 3, 3), edge(1, 2, 1))
	back := net(3, edge(1, 0, 5), edge(2, 1, 5), edge(0, 1, 5))
	circle := net(5, edge(1, 2, 4), edge(2, 3, 4), edge(3, 1, 4), edge(0, 4, 4))
	loops := net(3, edge(0, 0, 4), edge(1, 1, 4), edge(2, 2, 4))
	twice := net(3, edge(0, 1, 2), edge(0, 1, 3), edge(1, 2, 4))
	many := manyEdges(2, 2000, edge(0, 1, 1000000000))
	long := chainNet(130, func(int) int { return 1000000000 })
	quarters := net(3, edge(0, 1, 9), edge(0, 1, 9), edge(0, 1, 9), edge(0, 1, 9), edge(1, 2, 9))
	quarter := 1 << 62
	for _, c := range []struct {
		what  string
		w     network
		flows []int
		is    bool
		value int
	}{
		{"0 everywhere", way, []int{0, 0}, true, 0},
		{"less than the capacities", way, []int{3, 3}, true, 3},
		{"at the capacities", way, []int{5, 5}, true, 5},
		{"at the capacities of a split way", split, []int{3, 2, 2, 3, 1}, true, 5},
		{"at the capacities, but not balanced", twice, []int{2, 3, 4}, false, 0},
		{"beyond a capacity", way, []int{6, 6}, false, 0},
		{"beyond the second capacity", twice, []int{2, 3, 5}, false, 0},
		{"below 0", way, []int{-1, -1}, false, 0},
		{"below 0 on one of two edges", twice, []int{-1, 3, 2}, false, 0},
		{"too few", way, []int{3}, false, 0},
		{"too few of a split way", split, []int{1, 0, 1, 0}, false, 0},
		{"none", way, nil, false, 0},
		{"too many", way, []int{3, 3, 0}, false, 0},
		{"too many of no edges", net(2), []int{0}, false, 0},
		{"none of no edges", net(2), nil, true, 0},
		{"none of no edges of MaxFlowNodes nodes", net(130), []int{}, true, 0},
		{"a node that gets too much", way, []int{3, 2}, false, 0},
		{"a node that gets too little", way, []int{2, 3}, false, 0},
		{"one node of two that does not balance", split, []int{1, 0, 0, 0, 1}, false, 0},
		{"the other node that does not balance", split, []int{2, 1, 2, 2, 1}, false, 0},
		{"a negative value", back, []int{5, 5, 0}, true, -5},
		{"both ways over the source", back, []int{5, 3, 2}, true, -3},
		{"a negative value of 2 nodes", net(2, edge(1, 0, 2)), []int{2}, true, -2},
		{"a way in a circle", circle, []int{3, 3, 3, 0}, true, 0},
		{"a way in a circle and one beside it", circle, []int{4, 4, 4, 2}, true, 2},
		{"a broken circle", circle, []int{3, 3, 2, 0}, false, 0},
		{"a circle over the source", back, []int{4, 0, 4}, true, 0},
		{"from nodes to themselves", loops, []int{4, 3, 2}, true, 0},
		{"from nodes to themselves, beyond a capacity", loops, []int{4, 5, 2}, false, 0},
		{"several edges between the same two nodes", twice, []int{1, 3, 4}, true, 4},
		{"the same with all on one", twice, []int{0, 3, 3}, true, 3},
		{"MaxEdges edges at MaxCap", many, slices.Repeat([]int{1000000000}, 2000), true, 2000000000000},
		{"MaxEdges edges, one beyond MaxCap", many, append(slices.Repeat([]int{1000000000}, 1999), 1000000001), false, 0},
		{"MaxEdges edges and one flow more", many, make([]int, 2001), false, 0},
		{"MaxEdges edges and one flow less", many, make([]int, 1999), false, 0},
		{"a long way", long, slices.Repeat([]int{1000000000}, 129), true, 1000000000},
		{"a long way with a leak at its end", long, append(slices.Repeat([]int{7}, 128), 6), false, 0},
		{"a long way with a leak at its beginning", long, append([]int{6}, slices.Repeat([]int{7}, 128)...), false, 0},
		{"the greatest numbers", way, []int{math.MaxInt, math.MaxInt}, false, 0},
		{"the least numbers", way, []int{math.MinInt, math.MinInt}, false, 0},
		{"sums that wrap around to 0", quarters, []int{quarter, quarter, quarter, quarter, 0}, false, 0},
	} {
		is, ok := impl.IsFlow(c.w.n, c.w.l, c.flows)
		if is != c.is || !ok || areFlowsByHand(c.w, c.flows) != c.is {
			t.Error(c.what, "IsFlow", is, ok)
		}
		if value, ok := impl.FlowValue(c.w.n, c.w.l, c.flows); value != c.value || ok != c.is {
			t.Error(c.what, "FlowValue", value, ok)
		}
	}
}

// Flows that are changed at one edge are not flows if the edge leads to or from an inner node, or beyond its capacity.
func TestFlowsChangedAtOneEdge(t *testing.T) {
	for _, w := range manyNodes() {
		flows := flowsByHand(w)
		for k := 0; k < len(flows); k += 1 + len(flows)/20 {
			for _, more := range []int{-1, 1, w.l[k].Cap + 1, -w.l[k].Cap - 1} {
				changed := slices.Clone(flows)
				changed[k] += more
				want := areFlowsByHand(w, changed)
				if is, ok := impl.IsFlow(w.n, w.l, changed); is != want || !ok {
					t.Error("IsFlow", w, changed, is, ok)
				}
				value := 0
				if want {
					value = valueByHand(w, changed)
				}
				if got, ok := impl.FlowValue(w.n, w.l, changed); got != value || ok != want {
					t.Error("FlowValue", w, changed, got, ok)
				}
			}
		}
	}
}

func TestCutValuesAtTheirEdges(t *testing.T) {
	w := net(4, edge(0, 1, 3), edge(0, 2, 20), edge(1, 3, 100), edge(2, 3, 4000), edge(1, 2, 50000), edge(2, 1, 600000), edge(1, 0, 7000000), edge(3, 2, 80000000), edge(1, 1, 900000000))
	several := net(3, edge(0, 1, 1), edge(0, 1, 20), edge(0, 1, 300), edge(0, 2, 4000), edge(2, 0, 50000))
	many := manyEdges(2, 2000, edge(0, 1, 1000000000))
	every := numbersWhere(129, func(int) bool { return true })
	for _, c := range []struct {
		what  string
		w     network
		nodes []int
		value int
		ok    bool
	}{
		{"the source alone", w, []int{0}, 23, true},
		{"all nodes but the sink", w, []int{0, 1, 2}, 4100, true},
		{"the source and an inner node", w, []int{0, 1}, 50120, true},
		{"the source and another inner node", w, []int{0, 2}, 604003, true},
		{"with the sink", w, []int{0, 1, 2, 3}, 0, false},
		{"with the sink and without an inner node", w, []int{0, 3}, 0, false},
		{"the sink alone", w, []int{3}, 0, false},
		{"without the source", w, []int{1, 2}, 0, false},
		{"without the source, one node", w, []int{1}, 0, false},
		{"empty", w, nil, 0, false},
		{"empty and not nil", w, []int{}, 0, false},
		{"the source twice", w, []int{0, 0}, 0, false},
		{"an inner node twice", w, []int{0, 1, 1}, 0, false},
		{"another order", w, []int{0, 2, 1}, 0, false},
		{"the source at the end", w, []int{1, 0}, 0, false},
		{"a node beyond the sink", w, []int{0, 4}, 0, false},
		{"a node beyond the sink alone", w, []int{4}, 0, false},
		{"a node below the source", w, []int{-1, 0}, 0, false},
		{"a node below the source alone", w, []int{-1}, 0, false},
		{"the greatest number", w, []int{0, math.MaxInt}, 0, false},
		{"the least number", w, []int{math.MinInt, 0}, 0, false},
		{"several edges between the same two nodes", several, []int{0}, 4321, true},
		{"several edges inside", several, []int{0, 1}, 4000, true},
		{"2 nodes without edges", net(2), []int{0}, 0, true},
		{"2 nodes, the sink alone", net(2), []int{1}, 0, false},
		{"2 nodes, both", net(2), []int{0, 1}, 0, false},
		{"an edge of capacity 0", net(2, edge(0, 1, 0)), []int{0}, 0, true},
		{"an edge from the sink", net(2, edge(1, 0, 5)), []int{0}, 0, true},
		{"an edge from the source to itself", net(2, edge(0, 0, 5)), []int{0}, 0, true},
		{"MaxEdges edges of capacity MaxCap", many, []int{0}, 2000000000000, true},
		{"all of MaxFlowNodes nodes but the sink", fanNet(130, 1, 1000000000), every, 128000000000, true},
		{"all of MaxFlowNodes nodes", fanNet(130, 1, 2), append(slices.Clone(every), 129), 0, false},
	} {
		if value, ok := impl.CutValue(c.w.n, c.w.l, c.nodes); value != c.value || ok != c.ok {
			t.Error(c.what, value, ok, "not", c.value, c.ok)
		}
	}
}

func TestEdgesOfLeastCutsAtTheirEdges(t *testing.T) {
	chain := net(4, edge(0, 1, 5), edge(1, 2, 3), edge(2, 3, 5))
	even := net(4, edge(0, 1, 3), edge(1, 2, 3), edge(2, 3, 3))
	mixed := net(5, edge(0, 1, 3), edge(1, 2, 3), edge(2, 4, 3), edge(0, 3, 2), edge(3, 4, 5), edge(1, 3, 0), edge(3, 0, 4), edge(2, 2, 4))
	full := net(3, edge(0, 1, 1000000000), edge(1, 2, 1000000000), edge(0, 1, 0))
	below := net(2, edge(0, 1, 999999999))
	cases := []struct {
		what     string
		w        network
		k        int
		mends    bool
		mendsOk  bool
		blocks   bool
		blocksOk bool
	}{
		{"an edge of no least cut, before the narrow one", chain, 0, false, true, false, true},
		{"the edge of all least cuts", chain, 1, true, true, true, true},
		{"an edge of no least cut, behind the narrow one", chain, 2, false, true, false, true},
		{"an edge of some least cuts", even, 0, false, true, true, true},
		{"an edge of some other least cuts", even, 1, false, true, true, true},
		{"an edge of some least cuts at the sink", even, 2, false, true, true, true},
		{"an edge of some cuts beside an edge of all", mixed, 0, false, true, true, true},
		{"an edge of all cuts beside edges of some", mixed, 3, true, true, true, true},
		{"an edge that has room", mixed, 4, false, true, false, true},
		{"an edge of capacity 0 that could be used", mixed, 5, false, true, false, false},
		{"an edge to the source", mixed, 6, false, true, false, true},
		{"an edge from a node to itself", mixed, 7, false, true, false, true},
		{"capacity MaxCap", full, 0, false, false, true, true},
		{"capacity MaxCap at the sink", full, 1, false, false, true, true},
		{"capacity 0 beside MaxCap", full, 2, false, true, false, false},
		{"capacity just below MaxCap", below, 0, true, true, true, true},
		{"capacity 0 that mends", net(2, edge(0, 1, 0)), 0, true, true, false, false},
		{"capacity 1", net(2, edge(0, 1, 1)), 0, true, true, true, true},
		{"capacity MaxCap from a node to itself", net(2, edge(0, 0, 1000000000)), 0, false, false, false, true},
		{"capacity 0 from a node to itself", net(3, edge(1, 1, 0)), 0, false, true, false, false},
		{"one of several edges", manyEdges(2, 2000, edge(0, 1, 7)), 1999, true, true, true, true},
		{"an edge from the sink", net(2, edge(1, 0, 3)), 0, false, true, false, true},
		{"edge -1", chain, -1, false, false, false, false},
		{"one beyond the last edge", chain, 3, false, false, false, false},
		{"the first of no edges", net(2), 0, false, false, false, false},
		{"one beyond MaxEdges edges", manyEdges(2, 2000, edge(0, 1, 7)), 2000, false, false, false, false},
		{"the greatest number", chain, math.MaxInt, false, false, false, false},
		{"the least number", chain, math.MinInt, false, false, false, false},
	}
	for _, c := range cases {
		if is, ok := impl.MendsFlow(c.w.n, c.w.l, c.k); is != c.mends || ok != c.mendsOk {
			t.Error(c.what, "MendsFlow", is, ok)
		}
		if is, ok := impl.BlocksFlow(c.w.n, c.w.l, c.k); is != c.blocks || ok != c.blocksOk {
			t.Error(c.what, "BlocksFlow", is, ok)
		}
	}
}

// An edge mends the flow if it leads out of all least cuts, and blocks it if it leads out of one of them.
func TestEdgesAndLeastCuts(t *testing.T) {
	for _, w := range fewNodes() {
		_, least, greatest := checkCuts(t, w)
		value, _, _ := cutsByHand(w)
		for k := 0; k < len(w.l); k += 1 + len(w.l)/6 {
			e := w.l[k]
			inAll := slices.Contains(least, e.From) && !slices.Contains(greatest, e.To)
			if is, ok := impl.MendsFlow(w.n, w.l, k); ok && is != inAll {
				t.Error("MendsFlow", w, k, is)
			}
			inSome := false
			for inner := range 1 << (w.n - 2) {
				cut := 1 | inner<<1
				if cut>>e.From&1 == 1 && cut>>e.To&1 == 0 && !inSome {
					inSome = cutByHand(w, setList(cut)) == value
				}
			}
			if is, ok := impl.BlocksFlow(w.n, w.l, k); ok && is != inSome {
				t.Error("BlocksFlow", w, k, is)
			}
		}
	}
}

func TestTurnedNetworks(t *testing.T) {
	for _, w := range append(fewNodes(), manyNodes()...) {
		turned, ok := impl.TurnNetwork(w.n, w.l)
		want := turnByHand(w)
		if !ok || !slices.Equal(turned, want.l) || !impl.IsNetwork(w.n, turned) {
			t.Fatal("TurnNetwork", w, turned, ok)
		}
		if again, ok := impl.TurnNetwork(w.n, turned); !ok || !slices.Equal(again, w.l) {
			t.Error("a network that is turned twice is another one", w, again, ok)
		}
		value, least, greatest := checkCuts(t, w)
		back, first, last := checkCuts(t, want)
		inner := func(nodes []int) []int {
			return numbersWhere(w.n, func(node int) bool { return !slices.Contains(mirrored(w.n, nodes), node) })
		}
		if back != value || !slices.Equal(first, inner(greatest)) || !slices.Equal(last, inner(least)) {
			t.Error("the turned network has other flows and cuts", w, back, value, first, last)
		}
	}
	for _, c := range []struct {
		what string
		w    network
		want []impl.Edge
	}{
		{"no edges of 2 nodes", net(2), nil},
		{"no edges of MaxFlowNodes nodes", network{130, []impl.Edge{}}, nil},
		{"one edge", net(2, edge(0, 1, 5)), []impl.Edge{edge(0, 1, 5)}},
		{"one edge back", net(2, edge(1, 0, 5)), []impl.Edge{edge(1, 0, 5)}},
		{"the order stays", net(4, edge(0, 1, 1), edge(1, 3, 0), edge(2, 2, 3), edge(0, 1, 1)), []impl.Edge{edge(2, 3, 1), edge(0, 2, 0), edge(1, 1, 3), edge(2, 3, 1)}},
		{"MaxFlowNodes nodes", net(130, edge(0, 1, 1000000000), edge(129, 64, 2)), []impl.Edge{edge(128, 129, 1000000000), edge(65, 0, 2)}},
	} {
		if got, ok := impl.TurnNetwork(c.w.n, c.w.l); !ok || !slices.Equal(got, c.want) {
			t.Error(c.what, got, ok)
		}
	}
}

func TestWrongNetworksGiveNothing(t *testing.T) {
	for _, w := range wrongNets() {
		for _, flows := range [][]int{nil, {0}, make([]int, len(w.l))} {
			is, ok := impl.IsFlow(w.n, w.l, flows)
			value, also := impl.FlowValue(w.n, w.l, flows)
			if is || ok || value != 0 || also {
				t.Error("flows of no network", w, flows, is, ok, value, also)
			}
		}
		for _, nodes := range [][]int{nil, {0}, {0, 1}, {0, w.n - 1}} {
			if value, ok := impl.CutValue(w.n, w.l, nodes); value != 0 || ok {
				t.Error("a cut of no network", w, nodes, value, ok)
			}
		}
		for _, k := range append(outside(2000), 0, len(w.l)/2, len(w.l)-1) {
			mends, ok := impl.MendsFlow(w.n, w.l, k)
			blocks, also := impl.BlocksFlow(w.n, w.l, k)
			if mends || ok || blocks || also {
				t.Error("an edge of no network", w, k, mends, ok, blocks, also)
			}
		}
		value, ok := impl.GreatestFlow(w.n, w.l)
		least, first := impl.LeastCut(w.n, w.l)
		greatest, second := impl.GreatestCut(w.n, w.l)
		turned, third := impl.TurnNetwork(w.n, w.l)
		if value != 0 || ok || len(least) != 0 || first || len(greatest) != 0 || second || len(turned) != 0 || third {
			t.Error("no network", w, value, ok, least, first, greatest, second, turned, third)
		}
	}
}

func TestWrongListsOfNetworks(t *testing.T) {
	for _, w := range append(fewNodes(), manyNodes()...) {
		for _, nodes := range append(wrongLists(w.n-1), []int{w.n - 1}, []int{0, w.n - 1}, []int{1}, []int{}, nil) {
			if value, ok := impl.CutValue(w.n, w.l, nodes); value != 0 || ok {
				t.Error("no cut", w, nodes, value, ok)
			}
		}
		for _, count := range []int{0, len(w.l) - 1, len(w.l) + 1, 2*len(w.l) + 1} {
			if count < 0 || count == len(w.l) {
				continue
			}
			is, ok := impl.IsFlow(w.n, w.l, make([]int, count))
			value, also := impl.FlowValue(w.n, w.l, make([]int, count))
			if is || !ok || value != 0 || also {
				t.Error("as many flows as there are no edges", w, count, is, ok, value, also)
			}
		}
		for _, k := range outside(len(w.l) - 1) {
			mends, ok := impl.MendsFlow(w.n, w.l, k)
			blocks, also := impl.BlocksFlow(w.n, w.l, k)
			if mends || ok || blocks || also {
				t.Error("no edge", w, k, mends, ok, blocks, also)
			}
		}
	}
}

func spoilEdges(l []impl.Edge) {
	whole := l[:cap(l)]
	for k := range whole {
		whole[k] = edge(-7, -7, -7)
	}
}

// useNetwork calls all functions of chapter 8, and writes into everything that they return, so that shared memory shows.
func useNetwork(n int, l []impl.Edge, flows, nodes []int, k int) {
	impl.IsNetwork(n, l)
	impl.GreatestFlow(n, l)
	impl.IsFlow(n, l, flows)
	impl.FlowValue(n, l, flows)
	impl.CutValue(n, l, nodes)
	impl.MendsFlow(n, l, k)
	impl.BlocksFlow(n, l, k)
	least, _ := impl.LeastCut(n, l)
	spoilList(least)
	greatest, _ := impl.GreatestCut(n, l)
	spoilList(greatest)
	turned, _ := impl.TurnNetwork(n, l)
	spoilEdges(turned)
}

// Promise 33: no argument makes a function of chapter 8 panic.
func TestFlowsNeverPanic(t *testing.T) {
	numbers := edgeInts()
	all := append(wrongNets(), fewNodes()...)
	for at, w := range append(all, manyNodes()...) {
		lists := append(wrongLists(w.n), make([]int, len(w.l)), slices.Repeat([]int{math.MaxInt}, len(w.l)), slices.Repeat([]int{math.MinInt}, len(w.l)), nil)
		for shift := range 3 {
			flows, nodes, k := lists[(3*at+shift)%len(lists)], lists[(at+5*shift)%len(lists)], numbers[(at+shift)%len(numbers)]
			noPanic(t, fmt.Sprint("a function of the network by its number ", at, flows, nodes, k), func() {
				useNetwork(w.n, w.l, flows, nodes, k)
				useNetwork(numbers[at%len(numbers)], w.l, nodes, flows, at%2001)
			})
		}
	}
	for _, x := range numbers {
		for _, y := range numbers {
			for _, z := range numbers {
				noPanic(t, fmt.Sprint("a function of the numbers ", x, y, z), func() {
					useNetwork(x, []impl.Edge{edge(y, z, 1)}, []int{z}, []int{y}, y)
					useNetwork(130, []impl.Edge{edge(x, y, z)}, []int{z}, []int{0, x}, 0)
					useNetwork(9, []impl.Edge{edge(0, 8, 5), edge(x, y, z), edge(5, 8, 3)}, []int{x, y, z}, []int{x, y, z}, z)
				})
			}
		}
	}
}

// roomyEdges gives a list with memory behind it, and all of this memory.
func roomyEdges(l []impl.Edge) (list, whole []impl.Edge) {
	whole = append(slices.Clone(l), edge(0, 1, 1000), edge(-9, -8, -7), edge(1, 0, 3))
	return whole[:len(l)], whole
}

// Promise 33: no function of chapter 8 changes its arguments or what lies behind them.
func TestFlowArgumentsStay(t *testing.T) {
	for at, w := range append(append(fewNodes(), manyNodes()...), wrongNets()...) {
		lists := wrongLists(w.n)
		if isNetByHand(w) {
			lists = append(someCuts(w.n, at), flowsByHand(w), make([]int, len(w.l)))
		}
		for shift := range 3 {
			l, wholeEdges := roomyEdges(w.l)
			flows, wholeFlows := roomy(lists[len(lists)-1-shift])
			nodes, wholeNodes := roomy(lists[(at+shift)%len(lists)])
			kept, keptFlows, keptNodes := slices.Clone(wholeEdges), slices.Clone(wholeFlows), slices.Clone(wholeNodes)
			useNetwork(w.n, l, flows, nodes, (at+shift)%max(1, len(l)))
			useNetwork(w.n, l, nodes, flows, len(l))
			if !slices.Equal(wholeEdges, kept) || !slices.Equal(wholeFlows, keptFlows) || !slices.Equal(wholeNodes, keptNodes) {
				t.Fatal("an argument is changed", w, flows, nodes)
			}
		}
	}
}

// Promise 33: results are new memory, and a call leaves no trace for a later one.
func TestFlowResultsAreNew(t *testing.T) {
	for _, w := range append(fewNodes(), manyNodes()...) {
		kept := slices.Clone(w.l)
		checkFresh(t, "LeastCut", func() []int { l, _ := impl.LeastCut(w.n, w.l); return l })
		checkFresh(t, "GreatestCut", func() []int { l, _ := impl.GreatestCut(w.n, w.l); return l })
		first, _ := impl.TurnNetwork(w.n, w.l)
		second, _ := impl.TurnNetwork(w.n, w.l)
		spoilEdges(second)
		third, _ := impl.TurnNetwork(w.n, w.l)
		if !slices.Equal(first, turnByHand(w).l) || !slices.Equal(third, first) || !slices.Equal(w.l, kept) {
			t.Fatal("turned networks share memory", w, first, third)
		}
	}
}
