package tests

import (
	"fmt"
	"math"
	"math/big"
	"slices"
	"testing"

	"loop.example/g00914/impl"
)

func prices(price, recovery, mill, mine int) impl.Prices {
	return impl.Prices{Price: price, Recovery: recovery, Mill: mill, Mine: mine}
}

// rowModel is a row of blocks, all of rock 0.
func rowModel(tonnes, grades []int) impl.Model {
	return impl.Model{Grid: impl.Grid{X: len(tonnes), Y: 1, Z: 1}, Tonnes: tonnes, Grades: grades, Rocks: make([]int, len(tonnes))}
}

// someModels are a few of the valid models, from the smallest grids to the largest ones.
func someModels(step int) []impl.Model {
	var models []impl.Model
	for k, m := range validModels() {
		if k%step == 0 {
			models = append(models, m)
		}
	}
	return models
}

// goodPrices are prices at their limits in all ways, and mixed ones.
func goodPrices() []impl.Prices {
	l := []impl.Prices{prices(100, 500, 200, 50), prices(1, 1, 1, 1), prices(999, 999, 999, 999), prices(1000, 1, 1000, 1), prices(3, 7, 0, 0), prices(7, 143, 1000, 0)}
	for k := range 16 {
		l = append(l, prices(1000*(k&1), 1000*(k>>1&1), 1000*(k>>2&1), 1000*(k>>3&1)))
	}
	for seed := range 60 {
		next := numbersFrom(uint64(seed))
		l = append(l, prices(next(1000), next(1000), next(1000), next(1000)), prices(next(30), next(1000), next(40), next(20)))
	}
	return l
}

// wrongPrices have one field out of its range, or all of them.
func wrongPrices() []impl.Prices {
	var l []impl.Prices
	for _, n := range append([]int{-1000, 1002}, outside(1000)...) {
		l = append(l, prices(n, 1, 1, 1), prices(1, n, 1, 1), prices(1, 1, n, 1), prices(1, 1, 1, n), prices(n, 0, 0, 0), prices(0, n, 0, 0), prices(0, 0, n, 0), prices(0, 0, 0, n), prices(n, n, n, n))
	}
	return l
}

// mixedValues gives n values; some are at the limits, some are 0, 1 and -1.
func mixedValues(n, seed int) []int {
	next := numbersFrom(uint64(seed))
	var l []int
	for range n {
		value := next(2000000) - 1000000
		if next(2) == 1 {
			value = next(2) - 1
		}
		l = append(l, value)
	}
	return l
}

// goodValues are values of n blocks that are all ore, all waste, or both.
func goodValues(n int) [][]int {
	lists := [][]int{make([]int, n), slices.Repeat([]int{1}, n), slices.Repeat([]int{-1}, n), slices.Repeat([]int{1000000}, n), slices.Repeat([]int{-1000000}, n)}
	for seed := range 5 {
		lists = append(lists, mixedValues(n, 10*n+seed))
	}
	return lists
}

// wrongValues are lists that are values for no number of blocks.
func wrongValues() [][]int {
	lists := [][]int{nil, {}, make([]int, 121), make([]int, 1000), slices.Repeat([]int{1}, 121)}
	for _, n := range append([]int{-1000001, 1000001, -1000002}, outside(1000000)...) {
		if n < -1000000 || n > 1000000 {
			lists = append(lists, []int{n}, []int{0, n}, []int{n, 0}, []int{1, n, 1}, append(make([]int, 119), n), []int{n, n})
		}
	}
	return lists
}

func bigProduct(factors ...int) *big.Int {
	n := big.NewInt(1)
	for _, f := range factors {
		n.Mul(n, big.NewInt(int64(f)))
	}
	return n
}

// millByHand are the cents in the mill, whether they are less than 0 or not. Div of big numbers rounds down for positive divisors.
func millByHand(tonnes, grade int, p impl.Prices) *big.Int {
	cents := bigProduct(tonnes, grade, p.Recovery, p.Price)
	cents.Div(cents, big.NewInt(1000))
	return cents.Sub(cents, bigProduct(tonnes, p.Mill))
}

func priceByHand(tonnes, grade int, p impl.Prices) int {
	cents := millByHand(tonnes, grade, p)
	if cents.Sign() < 0 {
		cents.SetInt64(0)
	}
	cents.Sub(cents, bigProduct(tonnes, p.Mine))
	return int(cents.Div(cents, big.NewInt(10000)).Int64())
}

// cutOffByHand tries all grades, the least one first.
func cutOffByHand(p impl.Prices) (int, bool) {
	for grade := range 1001 {
		if grade*p.Recovery*p.Price >= 1000*p.Mill {
			return grade, true
		}
	}
	return 0, false
}

func fieldsByHand(m impl.Model, i int) []int {
	return []int{m.Tonnes[i], m.Grades[i], m.Rocks[i], spotsOf(m.Grid)[i].z, m.Tonnes[i] * m.Grades[i]}
}

// worthByHand returns the value of a rule for a block, and false if there is none.
func worthByHand(m impl.Model, r ruleTree, i int) (int, bool) {
	n, ok := r.valueByHand(fieldsByHand(m, i))
	if !ok || n < -1000000 || n > 1000000 {
		return 0, false
	}
	return n, true
}

func TestValueExample(t *testing.T) {
	m := impl.Model{Grid: impl.Grid{X: 2, Y: 1, Z: 1}, Tonnes: []int{100, 300}, Grades: []int{10, 30}, Rocks: []int{1, 2}}
	p := prices(100, 500, 200, 50)
	for i, want := range []int{2, 37} {
		if n, ok := impl.PriceValue(m, p, i); n != want || !ok {
			t.Error("value by prices", i, n, ok)
		}
	}
	if g, ok := impl.CutOff(p); g != 4 || !ok {
		t.Error("cut-off", g, ok)
	}
	rule := mustParse(t, "grade - 15")
	if l, ok := impl.RuleValues(m, rule); !slices.Equal(l, []int{-5, 15}) || !ok {
		t.Error("values by a rule", l, ok)
	}
	if a, b, ok := impl.StripRatio(m, []int{-5, 15}, []int{0, 1}); a != 1 || b != 3 || !ok {
		t.Error("strip ratio", a, b, ok)
	}
}

func TestValueLimits(t *testing.T) {
	if impl.MaxWorth != 1000000 {
		t.Error("MaxWorth", impl.MaxWorth)
	}
	for n := 1; n <= 120; n++ {
		for _, l := range goodValues(n) {
			for _, count := range []int{n - 1, n, n + 1, 0, -n} {
				if impl.AreValues(l, count) != (count == n) {
					t.Error("AreValues is wrong about", l, count)
				}
			}
			for _, count := range append([]int{121, 122, 240}, edgeInts()...) {
				if count != n && impl.AreValues(l, count) {
					t.Error("values of too many or too few blocks are taken", l, count)
				}
			}
		}
	}
	for _, l := range wrongValues() {
		for _, count := range append([]int{len(l), len(l) - 1, len(l) + 1}, edgeInts()...) {
			if impl.AreValues(l, count) {
				t.Error("wrong values are taken", l, count)
			}
		}
	}
	for _, value := range []int{-1000002, -1000001, -1000000, -999999, -1, 0, 1, 999999, 1000000, 1000001, 1000002, math.MinInt, math.MaxInt} {
		for at := range 3 {
			l := []int{0, 1, -1}
			l[at] = value
			if impl.AreValues(l, 3) != (value >= -1000000 && value <= 1000000) {
				t.Error("AreValues is wrong about", l)
			}
		}
	}
}

func TestPriceLimits(t *testing.T) {
	for _, p := range goodPrices() {
		if !impl.ArePrices(p) {
			t.Error("prices are refused", p)
		}
	}
	for _, p := range wrongPrices() {
		if impl.ArePrices(p) {
			t.Error("wrong prices are taken", p)
		}
	}
	for n := -3; n <= 1003; n++ {
		for _, p := range []impl.Prices{prices(n, 5, 5, 5), prices(5, n, 5, 5), prices(5, 5, n, 5), prices(5, 5, 5, n)} {
			if impl.ArePrices(p) != (n >= 0 && n <= 1000) {
				t.Error("ArePrices is wrong about", p)
			}
		}
	}
}

func TestValuesByPrices(t *testing.T) {
	good := goodPrices()
	for k, m := range validModels() {
		for n := range 4 {
			p := good[(5*k+n)%len(good)]
			var want []int
			for i := range m.Tonnes {
				want = append(want, priceByHand(m.Tonnes[i], m.Grades[i], p))
				if got, ok := impl.PriceValue(m, p, i); got != want[i] || !ok {
					t.Fatal("value by prices", m.Tonnes[i], m.Grades[i], p, got, ok, want[i])
				}
			}
			if l, ok := impl.PriceValues(m, p); !slices.Equal(l, want) || !ok || !impl.AreValues(l, len(m.Tonnes)) {
				t.Fatal("values by prices", m, p, l, ok, want)
			}
		}
	}
}

// checkPrice demands the value of a block, alone and with others beside it.
func checkPrice(t *testing.T, tonnes, grade int, p impl.Prices, want int) {
	t.Helper()
	m := rowModel([]int{1, tonnes, 0}, []int{0, grade, 9})
	if n, ok := impl.PriceValue(m, p, 1); n != want || !ok {
		t.Error("value by prices", tonnes, grade, p, n, ok, "not", want)
	}
	if l, ok := impl.PriceValues(m, p); !ok || len(l) != 3 || l[1] != want || l[2] != 0 {
		t.Error("values by prices", tonnes, grade, p, l, ok, "not", want)
	}
	if n, ok := impl.PriceValue(rowModel([]int{tonnes}, []int{grade}), p, 0); n != want || !ok {
		t.Error("value of a block alone", tonnes, grade, p, n, ok, "not", want)
	}
}

func TestValuesByPricesAtTheirEdges(t *testing.T) {
	for _, c := range []struct {
		tonnes, grade int
		p             impl.Prices
		want          int
	}{
		// The greatest value and the least one.
		{10000, 1000, prices(1000, 1000, 0, 0), 1000000}, {10000, 1000, prices(1000, 1000, 1000, 1000), 998000}, {10000, 0, prices(1000, 1000, 1000, 1000), -1000}, {10000, 0, prices(0, 0, 0, 1000), -1000},
		// 9999999 and 10000000 thousandths of a cent: rounded down, the former are 9999 cents.
		{4649, 717, prices(1, 3, 0, 0), 0}, {5000, 1000, prices(1, 2, 0, 0), 1}, {4649, 717, prices(1, 3, 0, 1), 0}, {4649, 717, prices(1, 3, 0, 2), 0}, {4649, 717, prices(1, 3, 0, 3), -1}, {4649, 717, prices(1, 3, 3, 0), 0},
		{1, 1, prices(1, 999, 0, 0), 0}, {1, 1, prices(1, 999, 0, 1), -1}, {1, 1, prices(1, 1000, 0, 1), 0}, {1, 1, prices(1, 1000, 0, 2), -1}, {3, 333, prices(1, 1, 0, 0), 0}, {3, 333, prices(1, 2, 0, 1), -1}, {2, 500, prices(1, 2, 0, 1), 0},
		// In the mill 100 cents less and more: -1, 0 and 1, where the mine costs 10000.
		{100, 99, prices(1, 10, 1, 100), -1}, {100, 999, prices(1, 1, 1, 100), -1}, {100, 100, prices(1, 10, 1, 100), -1}, {100, 101, prices(1, 10, 1, 100), -1},
		// The same where the mine costs 10001: only what is more than 0 counts.
		{137, 999, prices(1, 1, 1, 73), -2}, {137, 1000, prices(1, 1, 1, 73), -2}, {137, 504, prices(1, 2, 1, 73), -1}, {137, 504, prices(2, 1, 1, 73), -1},
		// Far below 0 in the mill.
		{10000, 0, prices(1000, 1000, 1000, 0), 0}, {10000, 1, prices(1, 1, 1000, 1), -1}, {10000, 1000, prices(1, 999, 1000, 0), 0}, {10000, 1000, prices(1, 1000, 1000, 0), 0}, {10000, 1000, prices(2, 1000, 1000, 0), 1000}, {10000, 1000, prices(2, 501, 1000, 0), 2}, {10000, 1000, prices(2, 501, 1000, 1), 1}, {10000, 1000, prices(2, 501, 1000, 2), 0}, {10000, 1000, prices(2, 501, 1000, 3), -1},
		// Sums that are negative: multiples of 10000 and others.
		{1, 0, prices(0, 0, 0, 1), -1}, {9999, 0, prices(0, 0, 0, 1), -1}, {10000, 0, prices(0, 0, 0, 1), -1}, {10, 0, prices(0, 0, 0, 1000), -1}, {137, 0, prices(0, 0, 0, 73), -2}, {20, 0, prices(0, 0, 0, 1000), -2}, {21, 0, prices(0, 0, 0, 1000), -3}, {10000, 0, prices(0, 0, 0, 2), -2}, {10000, 0, prices(0, 0, 0, 3), -3}, {9999, 0, prices(0, 0, 0, 2), -2}, {9999, 0, prices(0, 0, 0, 3), -3},
		// Sums that are positive: multiples of 10000 and others.
		{9999, 1, prices(1, 1000, 0, 0), 0}, {10000, 1, prices(1, 1000, 0, 0), 1}, {73, 137, prices(1, 1000, 0, 0), 1}, {9999, 2, prices(1, 1000, 0, 0), 1}, {10000, 2, prices(1, 1000, 0, 0), 2}, {10000, 2, prices(1, 1000, 0, 1), 1}, {10000, 2, prices(1, 1000, 1, 0), 1}, {10000, 2, prices(1, 1000, 1, 1), 0}, {10000, 2, prices(1, 1000, 1, 2), -1}, {10000, 2, prices(1, 1000, 2, 1), -1}, {10000, 2, prices(1, 1000, 3, 1), -1},
		// Nothing is paid, or the mill costs nothing.
		{100, 1000, prices(0, 1000, 0, 0), 0}, {100, 1000, prices(1000, 0, 0, 0), 0}, {100, 1000, prices(0, 0, 0, 0), 0}, {100, 1000, prices(0, 1000, 1000, 100), -1}, {100, 1000, prices(1000, 0, 1, 101), -2}, {100, 1000, prices(0, 0, 1000, 100), -1}, {100, 1000, prices(0, 0, 0, 100), -1}, {100, 5, prices(20, 1000, 0, 0), 1}, {100, 5, prices(20, 1000, 0, 1), 0},
	} {
		checkPrice(t, c.tonnes, c.grade, c.p, c.want)
		if by := priceByHand(c.tonnes, c.grade, c.p); by != c.want {
			t.Error("the tests disagree", c, by)
		}
	}
	for _, p := range goodPrices() {
		for _, grade := range []int{0, 1, 999, 1000} {
			checkPrice(t, 0, grade, p, 0)
		}
	}
}

// Promise 5: values by prices grow with the price, block by block.
func TestValuesGrowWithThePrice(t *testing.T) {
	m := rowModel([]int{0, 1, 137, 4649, 9999, 10000, 10000, 3333}, []int{1000, 1000, 504, 717, 1, 1000, 3, 0})
	grown := 0
	for _, p := range goodPrices() {
		before := slices.Repeat([]int{math.MinInt}, 8)
		for price := range 1001 {
			p.Price = price
			values, ok := impl.PriceValues(m, p)
			if !ok || len(values) != 8 {
				t.Fatal("values by prices", p, values, ok)
			}
			for i := range values {
				if values[i] < before[i] {
					t.Fatal("a value falls with the price", p, i, before[i], values[i])
				}
				if price > 0 && values[i] > before[i] {
					grown++
				}
			}
			before = values
		}
	}
	if grown < 10000 {
		t.Error("few values grow", grown)
	}
	for k, m := range someModels(3) {
		p := goodPrices()[k%100]
		p.Price = min(p.Price, 999)
		more := p
		more.Price++
		for i := range m.Tonnes {
			a, _ := impl.PriceValue(m, p, i)
			if b, ok := impl.PriceValue(m, more, i); b < a || !ok {
				t.Error("a value falls with the price", m, p, i, a, b, ok)
			}
		}
	}
}

func TestCutOffs(t *testing.T) {
	found, missed := 0, 0
	check := func(p impl.Prices) {
		want, is := cutOffByHand(p)
		if g, ok := impl.CutOff(p); g != want || ok != is {
			t.Error("cut-off", p, g, ok, "not", want, is)
		}
		if is {
			found++
		} else {
			missed++
		}
	}
	for _, p := range goodPrices() {
		check(p)
	}
	for _, price := range []int{0, 1, 2, 3, 7, 97, 500, 999, 1000} {
		for _, recovery := range []int{0, 1, 3, 143, 250, 999, 1000} {
			for _, mill := range []int{0, 1, 2, 3, 96, 97, 98, 500, 998, 999, 1000} {
				check(prices(price, recovery, mill, (price+mill)%1001))
			}
		}
	}
	if found < 100 || missed < 100 {
		t.Error("few cut-offs of one kind", found, missed)
	}
}

func TestCutOffsAtTheirEdges(t *testing.T) {
	for _, c := range []struct {
		p    impl.Prices
		want int
		ok   bool
	}{
		// A mill that costs nothing pays from grade 0 on, even if nothing is paid.
		{prices(0, 0, 0, 0), 0, true}, {prices(0, 1000, 0, 1000), 0, true}, {prices(1000, 0, 0, 1000), 0, true}, {prices(1, 1, 0, 0), 0, true}, {prices(1000, 1000, 0, 0), 0, true},
		// One that costs something never pays if nothing is paid.
		{prices(0, 0, 1, 0), 0, false}, {prices(0, 1000, 1, 0), 0, false}, {prices(1000, 0, 1, 0), 0, false}, {prices(0, 0, 1000, 1000), 0, false},
		// Exactly, just less and just more.
		{prices(100, 500, 200, 0), 4, true}, {prices(100, 500, 201, 0), 5, true}, {prices(100, 500, 199, 0), 4, true}, {prices(100, 500, 150, 0), 3, true}, {prices(100, 501, 200, 0), 4, true}, {prices(100, 499, 200, 0), 5, true}, {prices(1000, 1000, 1, 0), 1, true}, {prices(1000, 1000, 1000, 0), 1, true}, {prices(999, 1000, 1000, 0), 2, true}, {prices(3, 1, 1, 0), 334, true}, {prices(1, 3, 2, 0), 667, true},
		// MaxGrade, exactly and rounded up, and beyond it.
		{prices(1, 1, 1, 0), 1000, true}, {prices(1000, 1, 1000, 0), 1000, true}, {prices(20, 50, 1000, 0), 1000, true}, {prices(10, 10, 100, 9), 1000, true}, {prices(7, 143, 1000, 0), 1000, true}, {prices(1000, 1, 999, 0), 999, true},
		{prices(1, 1, 2, 0), 0, false}, {prices(10, 10, 101, 9), 0, false}, {prices(999, 1, 1000, 0), 0, false}, {prices(27, 37, 1000, 0), 0, false}, {prices(1, 1, 1000, 0), 0, false},
	} {
		for _, mine := range []int{c.p.Mine, 0, 1000} {
			p := c.p
			p.Mine = mine
			if g, ok := impl.CutOff(p); g != c.want || ok != c.ok {
				t.Error("cut-off", p, g, ok, "not", c.want, c.ok)
			}
		}
	}
}

// checkPays demands that below the cut-off a block costs its mining alone, and from there on it is worth what the mill pays minus that.
func checkPays(t *testing.T, p impl.Prices, tonnes, grade int) {
	t.Helper()
	cutOff, ok := impl.CutOff(p)
	pays := ok && grade >= cutOff
	cents := millByHand(tonnes, grade, p)
	if pays && cents.Sign() < 0 || !pays && tonnes > 0 && cents.Sign() >= 0 {
		t.Error("the mill pays elsewhere", p, tonnes, grade, cutOff, ok, cents)
	}
	if !pays {
		cents.SetInt64(0)
	}
	cents.Sub(cents, bigProduct(tonnes, p.Mine))
	want := int(cents.Div(cents, big.NewInt(10000)).Int64())
	if n, ok := impl.PriceValue(rowModel([]int{tonnes}, []int{grade}), p, 0); n != want || !ok {
		t.Error("the value is not that of the cut-off", p, tonnes, grade, cutOff, n, ok, "not", want)
	}
}

// Promise 5: the cut-off is where the mill pays.
func TestTheMillPaysFromTheCutOffOn(t *testing.T) {
	for _, p := range goodPrices() {
		cutOff, _ := impl.CutOff(p)
		for _, grade := range []int{0, cutOff - 2, cutOff - 1, cutOff, cutOff + 1, 500, 999, 1000} {
			if grade < 0 || grade > 1000 {
				continue
			}
			for _, tonnes := range []int{0, 1, 7, 137, 9999, 10000} {
				checkPays(t, p, tonnes, grade)
			}
		}
	}
}

func TestFieldsOfBlocks(t *testing.T) {
	for _, m := range someModels(7) {
		// Divided by 10, all metal is a value.
		for f, s := range []string{"tonnes", "grade", "rock", "level", "metal / 10"} {
			rule := mustParse(t, s)
			for i := range m.Tonnes {
				want := fieldsByHand(m, i)[f]
				if f == 4 {
					want /= 10
				}
				if n, ok := impl.RuleValue(m, rule, i); n != want || !ok {
					t.Error("field as a value", m, s, i, n, ok, "not", want)
				}
			}
		}
	}
}

// checkRule demands the value of each block by a rule, and all of them if each has one.
func checkRule(t *testing.T, m impl.Model, r ruleTree) bool {
	t.Helper()
	var want []int
	for i := range m.Tonnes {
		value, is := worthByHand(m, r, i)
		if n, ok := impl.RuleValue(m, r.parts(), i); n != value || ok != is {
			t.Fatal("value by a rule", m, r.text(), i, n, ok, "not", value, is)
		}
		if is {
			want = append(want, value)
		}
	}
	is := len(want) == len(m.Tonnes)
	if !is {
		want = nil
	}
	l, ok := impl.RuleValues(m, r.parts())
	if !slices.Equal(l, want) || ok != is || ok && !impl.AreValues(l, len(m.Tonnes)) {
		t.Fatal("values by a rule", m, r.text(), l, ok, "not", want, is)
	}
	return is
}

func TestValuesByRules(t *testing.T) {
	models := someModels(31)
	valued, failed := 0, 0
	for k, r := range goodRules() {
		for n := range 2 {
			if checkRule(t, models[(3*k+n)%len(models)], r) {
				valued++
			} else {
				failed++
			}
		}
	}
	if valued < 500 || failed < 200 {
		t.Error("few rules of one kind", valued, failed)
	}
}

func TestValuesByRulesAtTheirEdges(t *testing.T) {
	m := rowModel([]int{1000, 9901, 0, 10000}, []int{1000, 101, 5, 1000})
	for _, c := range []struct {
		s    string
		want []int
		ok   []bool
	}{
		{"1000000", []int{1000000, 1000000, 1000000, 1000000}, []bool{true, true, true, true}},
		{"1000000 + 1", []int{0, 0, 0, 0}, []bool{false, false, false, false}},
		{"1000000 + 1 - 1", []int{1000000, 1000000, 1000000, 1000000}, []bool{true, true, true, true}},
		{"0 - 1000000", []int{-1000000, -1000000, -1000000, -1000000}, []bool{true, true, true, true}},
		{"0 - 1000000 - 1", []int{0, 0, 0, 0}, []bool{false, false, false, false}},
		// The metal of the blocks is 1000000, one more, 0 and 10000000.
		{"metal", []int{1000000, 0, 0, 0}, []bool{true, false, true, false}},
		{"0 - metal", []int{-1000000, 0, 0, 0}, []bool{true, false, true, false}},
		{"metal - 1", []int{999999, 1000000, -1, 0}, []bool{true, true, true, false}},
		{"metal / 10", []int{100000, 100000, 0, 1000000}, []bool{true, true, true, true}},
		// The rule fails for one block only.
		{"grade / tonnes", []int{1, 0, 0, 0}, []bool{true, true, false, true}},
		{"100 / ( grade - 101 )", []int{0, 0, -2, 0}, []bool{true, false, true, true}},
		{"metal * 900 / 100000", []int{9000, 9000, 0, 0}, []bool{true, true, true, false}},
		{"if tonnes > 0 then metal / tonnes else 0 - 7", []int{1000, 101, -7, 1000}, []bool{true, true, true, true}},
		{"if tonnes = 0 then 1 / 0 else 5", []int{5, 5, 0, 5}, []bool{true, true, false, true}},
	} {
		rule := mustParse(t, c.s)
		for i := range c.want {
			if n, ok := impl.RuleValue(m, rule, i); n != c.want[i] || ok != c.ok[i] {
				t.Error("value by a rule", c, i, n, ok)
			}
		}
		l, ok := impl.RuleValues(m, rule)
		if slices.Contains(c.ok, false) {
			if len(l) != 0 || ok {
				t.Error("values by a rule that gives one block none", c, l, ok)
			}
		} else if !slices.Equal(l, c.want) || !ok {
			t.Error("values by a rule", c, l, ok)
		}
	}
}

// A rule may fail for the first block, for the last one, or for one between them.
func TestRulesThatFailForOneBlock(t *testing.T) {
	for _, g := range []impl.Grid{{X: 1, Y: 1, Z: 1}, {X: 3, Y: 2, Z: 2}, {X: 8, Y: 5, Z: 3}} {
		for i := range g.X * g.Y * g.Z {
			for s, tonnes := range map[string]int{"1000 / tonnes": 0, "tonnes * 200": 5001} {
				m := evenModel(g, 5000, 1, 1)
				rule := mustParse(t, s)
				if _, ok := impl.RuleValues(m, rule); !ok {
					t.Error("values by a rule", m, s)
				}
				m.Tonnes[i] = tonnes
				if l, ok := impl.RuleValues(m, rule); len(l) != 0 || ok {
					t.Error("values by a rule that gives one block none", m, s, l, ok)
				}
				for k := range m.Tonnes {
					if n, ok := impl.RuleValue(m, rule, k); ok != (k != i) || !ok && n != 0 {
						t.Error("value by a rule", m, s, k, n, ok)
					}
				}
			}
		}
	}
}

func TestOre(t *testing.T) {
	for n := 1; n <= 120; n++ {
		for _, values := range goodValues(n) {
			var want []int
			for i, value := range values {
				if value > 0 {
					want = append(want, i)
				}
			}
			l, ok := impl.OreBlocks(values)
			checkList(t, fmt.Sprint("ore of ", values), l, ok, want)
		}
	}
	for _, c := range []struct{ values, want []int }{
		{[]int{0}, nil}, {[]int{1}, []int{0}}, {[]int{-1}, nil}, {[]int{1000000}, []int{0}}, {[]int{-1000000}, nil}, {[]int{-1, 0, 1}, []int{2}}, {[]int{1, 0, 1, -1, 2}, []int{0, 2, 4}},
	} {
		l, ok := impl.OreBlocks(c.values)
		checkList(t, fmt.Sprint("ore of ", c.values), l, ok, c.want)
	}
}

func TestSumsOfValues(t *testing.T) {
	for n := 1; n <= 120; n++ {
		for _, values := range goodValues(n) {
			lists := validLists(n)
			if n > 2 {
				lists = append(lists, []int{0, n - 1}, []int{1, 2})
			}
			for _, blocks := range lists {
				want := 0
				for i, value := range values {
					if slices.Contains(blocks, i) {
						want += value
					}
				}
				if sum, ok := impl.SumOfValues(values, blocks); sum != want || !ok {
					t.Error("sum of values", values, blocks, sum, ok, "not", want)
				}
			}
		}
	}
	for _, value := range []int{1000000, -1000000} {
		if sum, ok := impl.SumOfValues(slices.Repeat([]int{value}, 120), validLists(120)[4]); sum != 120*value || !ok {
			t.Error("greatest sum", value, sum, ok)
		}
	}
	if sum, ok := impl.SumOfValues([]int{-5, 15}, []int{0, 1}); sum != 10 || !ok {
		t.Error("sum of values", sum, ok)
	}
}

// checkRatio demands the fraction of waste and ore in lowest terms, or nothing if there is no ore.
func checkRatio(t *testing.T, m impl.Model, values, blocks []int) {
	t.Helper()
	waste, ore := 0, 0
	for i, value := range values {
		if slices.Contains(blocks, i) && value > 0 {
			ore += m.Tonnes[i]
		} else if slices.Contains(blocks, i) {
			waste += m.Tonnes[i]
		}
	}
	a, b, ok := impl.StripRatio(m, values, blocks)
	if ore == 0 {
		if a != 0 || b != 0 || ok {
			t.Error("a ratio without ore", m, values, blocks, a, b, ok)
		}
		return
	}
	lowest := big.NewRat(int64(waste), int64(ore))
	if !ok || int64(a) != lowest.Num().Int64() || int64(b) != lowest.Denom().Int64() {
		t.Error("strip ratio", m, values, blocks, a, b, ok, "not", lowest)
	}
}

func TestStripRatios(t *testing.T) {
	for k, m := range validModels() {
		n := len(m.Tonnes)
		for _, values := range [][]int{mixedValues(n, k), goodValues(n)[k%5]} {
			for _, blocks := range validLists(n) {
				checkRatio(t, m, values, blocks)
			}
		}
	}
}

func TestStripRatiosAtTheirEdges(t *testing.T) {
	m := rowModel([]int{100, 300, 0, 0, 7, 10000}, slices.Repeat([]int{1}, 6))
	for _, c := range []struct {
		values, blocks []int
		a, b           int
		ok             bool
	}{
		// No blocks, no ore, or no waste.
		{[]int{1, 1, 1, 1, 1, 1}, nil, 0, 0, false}, {[]int{1, 1, 1, 1, 1, 1}, []int{}, 0, 0, false}, {[]int{1, 1, 1, 1, 1, 1}, []int{0, 1, 4}, 0, 1, true}, {[]int{-1, -1, -1, -1, -1, -1}, []int{0, 1, 4}, 0, 0, false}, {[]int{0, 0, 0, 0, 0, 0}, []int{0, 1, 2, 3, 4, 5}, 0, 0, false}, {[]int{1, 0, 0, 0, 0, 0}, []int{0}, 0, 1, true},
		// A value of 0 is waste, one of 1 is ore.
		{[]int{0, 1, 0, 0, 0, 0}, []int{0, 1}, 1, 3, true}, {[]int{1, 0, 0, 0, 0, 0}, []int{0, 1}, 3, 1, true}, {[]int{-1, 1, 0, 0, 0, 0}, []int{0, 1}, 1, 3, true}, {[]int{-1000000, 1000000, 0, 0, 0, 0}, []int{0, 1}, 1, 3, true},
		// Ratios in lowest terms and others.
		{[]int{-1, -1, 0, 0, 1, 1}, []int{0, 1, 4}, 400, 7, true}, {[]int{1, 1, 0, 0, -1, 1}, []int{0, 1, 4}, 7, 400, true}, {[]int{-1, -1, 0, 0, 1, 1}, []int{0, 1, 5}, 1, 25, true}, {[]int{-1, -1, 0, 0, 1, 1}, []int{0, 1, 4, 5}, 400, 10007, true},
		// Waste without tonnes, and ore without tonnes.
		{[]int{1, 1, -1, 0, 1, 1}, []int{1, 2, 3}, 0, 1, true}, {[]int{1, 1, -1, 0, 1, 1}, []int{2, 3}, 0, 0, false}, {[]int{0, 0, 1, 1, 0, 0}, []int{0, 2, 3}, 0, 0, false}, {[]int{0, 0, 1, 1, 0, 0}, []int{2, 3}, 0, 0, false}, {[]int{0, 1, 1, 0, 0, 0}, []int{0, 1, 2, 3}, 1, 3, true},
	} {
		if a, b, ok := impl.StripRatio(m, c.values, c.blocks); a != c.a || b != c.b || ok != c.ok {
			t.Error("strip ratio", c, a, b, ok)
		}
	}
	// Values that are more or fewer than the blocks of the model, though the list has only blocks of both.
	for _, n := range []int{1, 2, 5, 7, 12, 119, 120} {
		if a, b, ok := impl.StripRatio(m, slices.Repeat([]int{1}, n), []int{0}); a != 0 || b != 0 || ok {
			t.Error("strip ratio of other blocks", n, a, b, ok)
		}
	}
}

// checkNoWorth demands that nothing is returned by the functions that need a model and prices or a rule, and a block.
func checkNoWorth(t *testing.T, m impl.Model, p impl.Prices, rule []impl.Part, i int) {
	t.Helper()
	if n, ok := impl.PriceValue(m, p, i); n != 0 || ok {
		t.Error("value by prices", m, p, i, n, ok)
	}
	if n, ok := impl.RuleValue(m, rule, i); n != 0 || ok {
		t.Error("value by a rule", m, rule, i, n, ok)
	}
}

// checkNoWorths is the same for all blocks.
func checkNoWorths(t *testing.T, m impl.Model, p impl.Prices, rule []impl.Part) {
	t.Helper()
	if l, ok := impl.PriceValues(m, p); len(l) != 0 || ok {
		t.Error("values by prices", m, p, l, ok)
	}
	if l, ok := impl.RuleValues(m, rule); len(l) != 0 || ok {
		t.Error("values by a rule", m, rule, l, ok)
	}
}

func TestWrongModelsAndBlocksHaveNoValues(t *testing.T) {
	p, rule := prices(100, 500, 200, 50), []impl.Part{{Value: 7}}
	for _, m := range wrongModels() {
		checkNoWorths(t, m, p, rule)
		for _, i := range append([]int{0}, edgeInts()...) {
			checkNoWorth(t, m, p, rule, i)
		}
		for _, n := range []int{1, 2, 12, 120, len(m.Tonnes)} {
			values := slices.Repeat([]int{1}, n)
			for _, blocks := range [][]int{nil, {0}} {
				if a, b, ok := impl.StripRatio(m, values, blocks); a != 0 || b != 0 || ok {
					t.Error("strip ratio", m, values, blocks, a, b, ok)
				}
			}
		}
	}
	for k, g := range allGrids() {
		m := evenModel(g, 1+k, 1+k, k%5)
		for _, i := range outside(len(m.Tonnes) - 1) {
			checkNoWorth(t, m, p, rule, i)
		}
	}
}

func TestWrongPricesAndRulesGiveNoValues(t *testing.T) {
	m := mixedModel(impl.Grid{X: 3, Y: 2, Z: 2}, 2)
	for _, p := range wrongPrices() {
		if g, ok := impl.CutOff(p); g != 0 || ok {
			t.Error("cut-off", p, g, ok)
		}
		checkNoWorths(t, m, p, nil)
		checkNoWorths(t, evenModel(m.Grid, 0, 0, 0), p, nil)
		for _, i := range []int{0, 11} {
			checkNoWorth(t, m, p, nil, i)
		}
	}
	for _, rule := range wrongRules() {
		checkNoWorths(t, m, prices(-1, 1, 1, 1), rule)
		for _, i := range []int{0, 11} {
			checkNoWorth(t, m, prices(1, 1001, 1, 1), rule, i)
		}
	}
}

func TestWrongValuesAndListsGiveNothing(t *testing.T) {
	for _, values := range wrongValues() {
		if l, ok := impl.OreBlocks(values); len(l) != 0 || ok {
			t.Error("ore", values, l, ok)
		}
		for _, blocks := range [][]int{nil, {}, {0}} {
			if sum, ok := impl.SumOfValues(values, blocks); sum != 0 || ok {
				t.Error("sum of values", values, blocks, sum, ok)
			}
			for _, n := range []int{1, 2, 3, 5, 8} {
				if a, b, ok := impl.StripRatio(evenModel(impl.Grid{X: n, Y: 1, Z: 1}, 1, 1, 1), values, blocks); a != 0 || b != 0 || ok {
					t.Error("strip ratio", values, blocks, a, b, ok)
				}
			}
		}
	}
	for k, g := range allGrids() {
		m := evenModel(g, 1+k, 1+k, k%5)
		n := len(m.Tonnes)
		for _, values := range [][]int{slices.Repeat([]int{1}, n), mixedValues(n, k)} {
			for _, blocks := range wrongLists(n) {
				if sum, ok := impl.SumOfValues(values, blocks); sum != 0 || ok {
					t.Error("sum of values", values, blocks, sum, ok)
				}
				if a, b, ok := impl.StripRatio(m, values, blocks); a != 0 || b != 0 || ok {
					t.Error("strip ratio", m, values, blocks, a, b, ok)
				}
			}
		}
	}
}

// useValues calls all functions of chapter 5 and writes into what they return, so that shared memory shows.
func useValues(m impl.Model, p impl.Prices, rule []impl.Part, values, blocks []int, n int) {
	impl.AreValues(values, n)
	impl.AreValues(values, len(values))
	impl.ArePrices(p)
	impl.RuleValue(m, rule, n)
	impl.PriceValue(m, p, n)
	impl.CutOff(p)
	impl.SumOfValues(values, blocks)
	impl.StripRatio(m, values, blocks)
	byRule, _ := impl.RuleValues(m, rule)
	byPrices, _ := impl.PriceValues(m, p)
	ore, _ := impl.OreBlocks(values)
	for _, l := range [][]int{byRule, byPrices, ore} {
		spoilList(l)
	}
}

// valueArguments are wrong arguments and good ones, of which any may meet each other.
type valueArguments struct {
	models         []impl.Model
	prices         []impl.Prices
	rules          [][]impl.Part
	values, blocks [][]int
}

func allValueArguments() valueArguments {
	a := valueArguments{models: append(wrongModels(), someModels(29)...), prices: append(wrongPrices(), goodPrices()...), rules: wrongRules(), values: wrongValues()}
	for _, r := range goodRules()[:200] {
		a.rules = append(a.rules, r.parts())
	}
	for _, n := range []int{1, 2, 12, 60, 120} {
		a.values = append(a.values, goodValues(n)...)
		a.blocks = append(append(a.blocks, validLists(n)...), wrongLists(n)...)
	}
	return a
}

// Promise 33: no argument makes a function of chapter 5 panic.
func TestValuesNeverPanic(t *testing.T) {
	a := allValueArguments()
	numbers := edgeInts()
	for k := range 4 * len(a.models) {
		m, p, rule := a.models[k%len(a.models)], a.prices[k%len(a.prices)], a.rules[k%len(a.rules)]
		values, blocks := a.values[k%len(a.values)], a.blocks[k%len(a.blocks)]
		if k%3 == 0 {
			values = slices.Repeat([]int{k % 2}, len(m.Tonnes))
		}
		noPanic(t, fmt.Sprint("a function of arguments ", k, p, m.Grid, values, blocks), func() {
			for _, n := range numbers {
				useValues(m, p, rule, values, blocks, n)
			}
		})
	}
	for _, x := range append([]int{-1000001, 1000, 1001}, numbers...) {
		for _, y := range numbers {
			noPanic(t, fmt.Sprint("a function of the numbers ", x, y), func() {
				useValues(rowModel([]int{x}, []int{y}), prices(x, y, x, y), []impl.Part{{Kind: x, Value: y}}, []int{x, y}, []int{y, x}, x)
				useValues(impl.Model{Grid: impl.Grid{X: x, Y: y, Z: x}}, prices(y, x, x, y), nil, []int{y}, nil, y)
				for _, values := range [][]int{make([]int, 3), {x, y}, nil} {
					for _, blocks := range [][]int{{x}, {x, y}, {0, 1, x}} {
						impl.SumOfValues(values, blocks)
						impl.StripRatio(rowModel([]int{1, 1, 1}, []int{1, 1, 1}), values, blocks)
					}
				}
			})
		}
	}
}

// Promise 33: no function of chapter 5 changes its arguments or what lies behind them.
func TestValueArgumentsStay(t *testing.T) {
	a := allValueArguments()
	for k := range 3 * len(a.models) {
		given := a.models[k%len(a.models)]
		values := a.values[k%len(a.values)]
		if k%2 == 0 {
			values = mixedValues(len(given.Tonnes), k)
		}
		m := given
		var memory, kept [5][]int
		m.Tonnes, memory[0] = roomy(given.Tonnes)
		m.Grades, memory[1] = roomy(given.Grades)
		m.Rocks, memory[2] = roomy(given.Rocks)
		values, memory[3] = roomy(values)
		blocks, whole := roomy(a.blocks[k%len(a.blocks)])
		memory[4] = whole
		rule, wholeRule := roomyParts(a.rules[k%len(a.rules)])
		keptRule := slices.Clone(wholeRule)
		for n := range memory {
			kept[n] = slices.Clone(memory[n])
		}
		useValues(m, a.prices[k%len(a.prices)], rule, values, blocks, 0)
		for n := range memory {
			if !slices.Equal(memory[n], kept[n]) {
				t.Fatal("an argument is changed", given, n, memory[n], kept[n])
			}
		}
		if !slices.Equal(wholeRule, keptRule) {
			t.Fatal("a rule is changed", wholeRule, keptRule)
		}
	}
}

// Promise 33: results are new memory.
func TestValueResultsAreNew(t *testing.T) {
	for k, m := range someModels(5) {
		p := goodPrices()[k%100]
		values := mixedValues(len(m.Tonnes), k)
		checkFresh(t, "PriceValues", func() []int { l, _ := impl.PriceValues(m, p); return l })
		checkFresh(t, "RuleValues", func() []int { l, _ := impl.RuleValues(m, field(0).parts()); return l })
		checkFresh(t, "OreBlocks", func() []int { l, _ := impl.OreBlocks(values); return l })
	}
}
