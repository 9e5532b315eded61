package tests

import (
	"fmt"
	"math"
	"regexp"
	"slices"
	"strconv"
	"strings"
	"testing"

	"loop.example/g00914/impl"
)

// ruleTree is a rule as the tests see it: a part with the rules that it needs.
type ruleTree struct {
	kind, value int
	needs       []ruleTree
}

func num(n int) ruleTree   { return ruleTree{kind: 0, value: n} }
func field(n int) ruleTree { return ruleTree{kind: 1, value: n} }

func on(kind int, needs ...ruleTree) ruleTree { return ruleTree{kind: kind, needs: needs} }

func (r ruleTree) parts() []impl.Part {
	var l []impl.Part
	for _, need := range r.needs {
		l = append(l, need.parts()...)
	}
	return append(l, impl.Part{Kind: r.kind, Value: r.value})
}

// each calls a function for each part, in the order of the list.
func (r ruleTree) each(see func(ruleTree)) {
	for _, need := range r.needs {
		need.each(see)
	}
	see(r)
}

func (r ruleTree) depth() int {
	deepest := 0
	for _, need := range r.needs {
		deepest = max(deepest, need.depth())
	}
	return 1 + deepest
}

func (r ruleTree) fields() []int {
	var l []int
	r.each(func(p ruleTree) {
		if p.kind == 1 {
			l = append(l, p.value)
		}
	})
	slices.Sort(l)
	return slices.Compact(l)
}

func (r ruleTree) put(field int, with ruleTree) ruleTree {
	if r.kind == 1 && r.value == field {
		return with
	}
	put := ruleTree{kind: r.kind, value: r.value}
	for _, need := range r.needs {
		put.needs = append(put.needs, need.put(field, with))
	}
	return put
}

func isChoice(kind int) bool  { return kind >= 6 }
func isSum(kind int) bool     { return kind == 2 || kind == 3 }
func isProduct(kind int) bool { return kind == 4 || kind == 5 }

// needsMarks says, in the words of the document, where parentheses stand around the part at a place of another one.
func needsMarks(outer, at, inner int) bool {
	switch {
	case isChoice(inner):
		return isSum(outer) || isProduct(outer) || isChoice(outer) && at < 2
	case isSum(inner):
		return isProduct(outer) || isSum(outer) && at == 1
	case isProduct(inner):
		return isProduct(outer) && at == 1
	}
	return false
}

// spell writes a rule with parentheses where a function wants them.
func (r ruleTree) spell(marks func(outer, at, inner int) bool) string {
	var s []string
	for at, need := range r.needs {
		text := need.spell(marks)
		if marks(r.kind, at, need.kind) {
			text = "( " + text + " )"
		}
		s = append(s, text)
	}
	sign := []string{"", "", "+", "-", "*", "/", "<", "=", ">"}[r.kind]
	switch len(s) {
	case 4:
		return fmt.Sprintf("if %s %s %s then %s else %s", s[0], sign, s[1], s[2], s[3])
	case 2:
		return s[0] + " " + sign + " " + s[1]
	}
	if r.kind == 1 {
		return []string{"tonnes", "grade", "rock", "level", "metal"}[r.value]
	}
	return strconv.Itoa(r.value)
}

func (r ruleTree) text() string { return r.spell(needsMarks) }

func (r ruleTree) markedText() string {
	return "( " + r.spell(func(int, int, int) bool { return true }) + " )"
}

// valueByHand returns the value of a rule, and false if it fails.
func (r ruleTree) valueByHand(fields []int) (int, bool) {
	switch r.kind {
	case 0:
		return r.value, true
	case 1:
		return fields[r.value], true
	}
	a, fine := r.needs[0].valueByHand(fields)
	b, good := r.needs[1].valueByHand(fields)
	if !fine || !good {
		return 0, false
	}
	n := 0
	switch r.kind {
	case 2:
		n = a + b
	case 3:
		n = a - b
	case 4:
		n = a * b
	case 5:
		if b == 0 {
			return 0, false
		}
		if b < 0 {
			a, b = -a, -b
		}
		n = (a - (a%b+b)%b) / b
	default:
		if r.kind == 6 && a < b || r.kind == 7 && a == b || r.kind == 8 && a > b {
			return r.needs[2].valueByHand(fields)
		}
		return r.needs[3].valueByHand(fields)
	}
	if apart(n, 0) > 1000000000 {
		return 0, false
	}
	return n, true
}

// foldByHand replaces the greatest part that can be replaced, again and again.
func (r ruleTree) foldByHand() []impl.Part {
	l := r.parts()
	for {
		var best ruleTree
		most, end, at := 1, 0, 0
		treeOf(l).each(func(p ruleTree) {
			at++
			n, ok := 0, len(p.fields()) == 0
			if ok {
				n, ok = p.valueByHand(nil)
			}
			if size := len(p.parts()); ok && n >= 0 && n <= 1000000 && size > most {
				best, most, end = num(n), size, at
			}
		})
		if most == 1 {
			return l
		}
		l = slices.Concat(l[:end-most], best.parts(), l[end:])
	}
}

// treeOf needs a rule.
func treeOf(l []impl.Part) ruleTree {
	var stack []ruleTree
	for _, p := range l {
		n := len(stack) - needsByHand(p)
		stack = append(stack[:n:n], ruleTree{kind: p.Kind, value: p.Value, needs: slices.Clone(stack[n:])})
	}
	return stack[0]
}

// needsByHand returns how many rules a part needs, or -1 if it is no part.
func needsByHand(p impl.Part) int {
	switch {
	case p.Kind == 0 && p.Value >= 0 && p.Value <= 1000000, p.Kind == 1 && p.Value >= 0 && p.Value <= 4:
		return 0
	case (isSum(p.Kind) || isProduct(p.Kind)) && p.Value == 0:
		return 2
	case p.Kind >= 6 && p.Kind <= 8 && p.Value == 0:
		return 4
	}
	return -1
}

// isRuleByHand keeps the depths of the rules that nothing needs yet.
func isRuleByHand(l []impl.Part) bool {
	var depths []int
	for _, p := range l {
		n := needsByHand(p)
		if n < 0 || n > len(depths) {
			return false
		}
		deepest := 0
		for _, depth := range depths[len(depths)-n:] {
			deepest = max(deepest, depth)
		}
		depths = append(depths[:len(depths)-n], deepest+1)
	}
	return len(l) <= 39 && len(depths) == 1 && depths[0] <= 12
}

// growRule makes a rule of at most so many parts and of at most such a depth; wild ones have fields.
func growRule(next func(int) int, parts, depth int, wild bool) ruleTree {
	kind := 2 + next(6)
	needs := 2
	if isChoice(kind) {
		needs = 4
	}
	if depth == 1 || parts < 1+needs {
		if wild && next(1) == 0 {
			return field(next(4))
		}
		return num([]int{next(10), next(10), next(1000000), 0, 1, 1000}[next(5)])
	}
	r := ruleTree{kind: kind}
	left := parts - 1
	for k := needs; k > 0; k-- {
		// Every rule has an odd number of parts, and each one that is still to come needs at least one.
		own := 1 + 2*next((left-k)/2)
		if k == 1 {
			own = left
		}
		need := growRule(next, own, depth-1, wild)
		left -= len(need.parts())
		r.needs = append(r.needs, need)
	}
	return r
}

// chain has one part for each depth and a leaf for each of them.
func chain(depth int, leaf ruleTree) ruleTree {
	r := leaf
	for k := 1; k < depth; k++ {
		r = on(2+k%4, r, leaf)
	}
	return r
}

// flatRule is an even tree of sums with n leaves.
func flatRule(n int, leaf ruleTree) ruleTree {
	if n == 1 {
		return leaf
	}
	return on(2, flatRule((n+1)/2, leaf), flatRule(n/2, leaf))
}

// choices has nine choices in each other, and so the most parts that choices alone can have below 39.
func choices() ruleTree {
	r := on(6, field(0), num(1), num(2), num(3))
	for k := range 8 {
		needs := []ruleTree{num(1000000), field(k % 5), num(0), field(4)}
		needs[k%4] = r
		r = on(6+k%3, needs...)
	}
	return r
}

// goodRules are rules at the limits, and mixed ones of all sizes.
func goodRules() []ruleTree {
	rules := []ruleTree{num(0), num(1), num(1000000), field(0), field(4), chain(12, field(2)), chain(12, num(1000000)), flatRule(20, num(7)), flatRule(20, field(3)), choices()}
	for kind := 2; kind <= 8; kind++ {
		for _, leaf := range []ruleTree{num(3), field(1)} {
			r := on(kind, leaf, num(2))
			if isChoice(kind) {
				r = on(kind, leaf, num(2), field(0), num(9))
			}
			rules = append(rules, r)
		}
	}
	for seed := range 1500 {
		next := numbersFrom(uint64(seed))
		rules = append(rules, growRule(next, 1+seed%39, 1+seed%13%12, seed%3 > 0))
	}
	return rules
}

// wrongRules are lists that are no rules.
func wrongRules() [][]impl.Part {
	one, add, choose := impl.Part{Value: 1}, impl.Part{Kind: 2}, impl.Part{Kind: 7}
	lists := [][]impl.Part{
		nil, {},
		{add}, {choose}, {one, add}, {add, one}, {add, one, one}, {one, add, one}, {one, choose}, {one, one, choose}, {one, one, one, choose}, {choose, one, one, one, one},
		{one, one}, {one, one, one}, {one, one, one, add}, {one, one, add, one}, {one, one, one, one, one, choose}, {one, one, one, one, choose, one},
		{one, one, add, add}, {one, one, one, choose, one}, {one, one, add, add, one},
		flatRule(20, num(1)).parts()[:38], append(flatRule(20, num(1)).parts(), one), flatRule(21, num(1)).parts(), flatRule(500, num(1)).parts(),
		chain(13, num(1)).parts(), chain(13, field(1)).parts(), chain(14, num(1)).parts(), chain(19, num(1)).parts(), chain(20, num(1)).parts(), on(3, num(1), chain(12, num(2))).parts(),
		on(6, num(1), num(1), num(1), chain(12, num(1))).parts(), on(8, chain(12, num(1)), num(1), num(1), num(1)).parts(),
		make([]impl.Part, 39), make([]impl.Part, 40), make([]impl.Part, 100000), slices.Repeat([]impl.Part{add}, 39), slices.Repeat([]impl.Part{choose}, 100000),
	}
	var parts []impl.Part
	for _, n := range outside(1000000) {
		parts = append(parts, impl.Part{Kind: 0, Value: n})
	}
	for _, n := range outside(4) {
		parts = append(parts, impl.Part{Kind: 1, Value: n})
	}
	for _, n := range outside(8) {
		parts = append(parts, impl.Part{Kind: n}, impl.Part{Kind: n, Value: n})
	}
	for _, p := range parts {
		lists = append(lists, []impl.Part{p}, []impl.Part{p, one, add}, []impl.Part{one, p, add}, []impl.Part{one, one, p}, []impl.Part{one, one, one, p, choose}, []impl.Part{one, one, one, one, p})
	}
	for kind := 2; kind <= 8; kind++ {
		for _, n := range append(edgeInts(), 2, 3, 1000000) {
			if n != 0 {
				lists = append(lists, []impl.Part{one, one, {Kind: kind, Value: n}}, []impl.Part{one, one, one, one, {Kind: kind, Value: n}})
			}
		}
	}
	return lists
}

// goodFields are the fields of blocks, at their limits and mixed.
func goodFields() [][]int {
	lists := [][]int{{0, 0, 0, 0, 0}, {1, 1, 1, 1, 1}, {100, 20, 0, 0, 2000}, {10000, 1000, 4, 4, 10000000}, {10000000, 10000000, 10000000, 10000000, 10000000}}
	for seed := range 5 {
		next := numbersFrom(uint64(seed))
		lists = append(lists, []int{next(10000), next(1000), next(4), next(4), next(10000000)})
	}
	return lists
}

func wrongFields() [][]int {
	lists := [][]int{nil, {}, {1}, {1, 2, 3, 4}, {1, 2, 3, 4, 5, 6}, make([]int, 1000)}
	for _, n := range outside(10000000) {
		for at := range 5 {
			l := []int{1, 2, 3, 4, 5}
			l[at] = n
			lists = append(lists, l)
		}
	}
	return lists
}

func mustParse(t *testing.T, s string) []impl.Part {
	t.Helper()
	l, ok := impl.ParseRule(s)
	if !ok || !impl.IsRule(l) {
		t.Fatalf("%q is no rule: %v", s, l)
	}
	return l
}

func TestRuleExample(t *testing.T) {
	l := mustParse(t, "tonnes * ( grade - 5 )")
	if want := []impl.Part{{Kind: impl.RuField}, {Kind: impl.RuField, Value: 1}, {Value: 5}, {Kind: impl.RuSubtract}, {Kind: impl.RuMultiply}}; !slices.Equal(l, want) {
		t.Error("parts", l)
	}
	if s, ok := impl.RuleText(l); s != "tonnes * ( grade - 5 )" || !ok {
		t.Errorf("text %q %v", s, ok)
	}
	if n, ok := impl.EvalRule(l, []int{100, 20, 0, 0, 2000}); n != 1500 || !ok {
		t.Error("value", n, ok)
	}
	for i, want := range []int{1, 1, 1, 3, 5} {
		if n, ok := impl.SizeOfPart(l, i); n != want || !ok {
			t.Error("size", i, n, ok)
		}
	}
}

func TestRuleConstants(t *testing.T) {
	kinds := []int{impl.RuNumber, impl.RuField, impl.RuAdd, impl.RuSubtract, impl.RuMultiply, impl.RuDivide, impl.RuIfLess, impl.RuIfEqual, impl.RuIfMore}
	if !slices.Equal(kinds, []int{0, 1, 2, 3, 4, 5, 6, 7, 8}) || impl.MaxParts != 39 || impl.MaxResult != 1000000000 {
		t.Error("constants", kinds, impl.MaxParts, impl.MaxResult)
	}
}

func TestRuleLimits(t *testing.T) {
	most, deepest := 0, 0
	for _, r := range goodRules() {
		if l := r.parts(); !impl.IsRule(l) {
			t.Error("a rule is refused", l)
		}
		most, deepest = max(most, len(r.parts())), max(deepest, r.depth())
	}
	if most != 39 || deepest != 12 {
		t.Error("no rules at the limits", most, deepest)
	}
	for _, l := range wrongRules() {
		if impl.IsRule(l) {
			t.Error("a list that is no rule is taken", l)
		}
	}
	for kind := -2; kind <= 10; kind++ {
		for _, value := range append([]int{2, 3, 4, 999999, 1000000, 1000001}, edgeInts()...) {
			for n := range 6 {
				l := append(slices.Repeat([]impl.Part{{Kind: 1, Value: 4}}, n), impl.Part{Kind: kind, Value: value})
				if impl.IsRule(l) != isRuleByHand(l) {
					t.Error("IsRule is wrong about", l)
				}
			}
		}
	}
}

// eachList calls a function for each list of at most n parts of some kinds.
func eachList(n int, kinds []int, see func([]impl.Part)) {
	var grow func(l []impl.Part)
	grow = func(l []impl.Part) {
		see(l)
		if len(l) < n {
			for _, kind := range kinds {
				grow(append(slices.Clone(l), impl.Part{Kind: kind}))
			}
		}
	}
	grow(nil)
}

func TestAllShortLists(t *testing.T) {
	rules := 0
	check := func(l []impl.Part) {
		is := isRuleByHand(l)
		if impl.IsRule(l) != is {
			t.Error("IsRule is wrong about", l)
		}
		if is {
			rules++
		}
	}
	eachList(5, []int{0, 1, 2, 3, 4, 5, 6, 7, 8, 9}, check)
	eachList(9, []int{0, 4, 8}, check)
	if rules < 300 {
		t.Error("few rules", rules)
	}
}

func TestRulesWithOnePartChanged(t *testing.T) {
	for k, r := range goodRules() {
		l := r.parts()
		for i := range l {
			changed := slices.Clone(l)
			changed[i] = impl.Part{Kind: k % 9, Value: k % 2}
			shorter := slices.Delete(slices.Clone(l), i, i+1)
			longer := slices.Insert(slices.Clone(l), i, impl.Part{Kind: i % 9})
			for _, other := range [][]impl.Part{changed, shorter, longer} {
				if impl.IsRule(other) != isRuleByHand(other) {
					t.Error("IsRule is wrong about", other)
				}
			}
		}
	}
}

func TestDepthsFieldsAndSizes(t *testing.T) {
	for _, r := range goodRules() {
		l := r.parts()
		if n, ok := impl.DepthOfRule(l); n != r.depth() || !ok {
			t.Error("depth", l, n, ok)
		}
		f, ok := impl.FieldsOfRule(l)
		checkList(t, fmt.Sprint("fields of ", l), f, ok, r.fields())
		i := 0
		r.each(func(p ruleTree) {
			if n, ok := impl.SizeOfPart(l, i); n != len(p.parts()) || !ok {
				t.Error("size", l, i, n, ok)
			}
			i++
		})
	}
	for _, c := range []struct {
		s      string
		depth  int
		fields []int
		sizes  []int
	}{
		{"7", 1, nil, []int{1}},
		{"metal", 1, []int{4}, []int{1}},
		{"metal + grade * metal - tonnes", 4, []int{0, 1, 4}, []int{1, 1, 1, 3, 5, 1, 7}},
		{"level - ( rock - 1 )", 3, []int{2, 3}, []int{1, 1, 1, 3, 5}},
		{"if 1 < 2 + 3 then 4 else rock", 3, []int{2}, []int{1, 1, 1, 3, 1, 1, 7}},
		{"if grade = 0 then 0 else if tonnes > 9 then 1 else 2", 3, []int{0, 1}, []int{1, 1, 1, 1, 1, 1, 1, 5, 9}},
	} {
		l := mustParse(t, c.s)
		if n, ok := impl.DepthOfRule(l); n != c.depth || !ok {
			t.Error("depth", c, n, ok)
		}
		f, ok := impl.FieldsOfRule(l)
		checkList(t, c.s, f, ok, c.fields)
		for i, want := range c.sizes {
			if n, ok := impl.SizeOfPart(l, i); n != want || !ok {
				t.Error("size", c, i, n, ok)
			}
		}
		for _, i := range outside(len(l) - 1) {
			if n, ok := impl.SizeOfPart(l, i); n != 0 || ok {
				t.Error("size of no part", c, i, n, ok)
			}
		}
	}
}

// Promise 4: texts of rules are read back, with needless parentheses too.
func TestRuleTextsAreReadBack(t *testing.T) {
	for _, r := range goodRules() {
		l := r.parts()
		s, ok := impl.RuleText(l)
		if s != r.text() || !ok {
			t.Errorf("text of %v: %q %v, not %q", l, s, ok, r.text())
		}
		for _, text := range []string{s, "( " + s + " )", "( ( ( " + s + " ) ) )", r.markedText()} {
			if len(text) > 600 {
				continue
			}
			if p, ok := impl.ParseRule(text); !slices.Equal(p, l) || !ok {
				t.Errorf("rule of %q: %v %v, not %v", text, p, ok, l)
			}
		}
	}
}

// pairsOf returns the places of the parentheses of a text that belong to each other.
func pairsOf(words []string) [][2]int {
	var open []int
	var pairs [][2]int
	for at, word := range words {
		switch word {
		case "(":
			open = append(open, at)
		case ")":
			pairs = append(pairs, [2]int{open[len(open)-1], at})
			open = open[:len(open)-1]
		}
	}
	return pairs
}

func TestNoParenthesesAreNeedless(t *testing.T) {
	seen := 0
	for _, r := range goodRules() {
		l := r.parts()
		s, _ := impl.RuleText(l)
		words := strings.Split(s, " ")
		for _, pair := range pairsOf(words) {
			less := slices.Concat(words[:pair[0]], words[pair[0]+1:pair[1]], words[pair[1]+1:])
			if p, ok := impl.ParseRule(strings.Join(less, " ")); ok && slices.Equal(p, l) {
				t.Errorf("needless parentheses in %q: %v", s, pair)
			}
			seen++
		}
	}
	if seen < 1000 {
		t.Error("few parentheses", seen)
	}
}

// Each kind of part stands at each place of each other one.
func TestTextsOfPartsInParts(t *testing.T) {
	ofKind := func(kind int) ruleTree {
		return []ruleTree{num(8), field(2), on(2, num(1), num(2)), on(3, num(1), num(2)), on(4, num(1), num(2)), on(5, num(1), num(2)), on(6, num(1), num(2), num(3), num(4)), on(7, num(1), num(2), num(3), num(4)), on(8, num(1), num(2), num(3), num(4))}[kind]
	}
	for outer := 2; outer <= 8; outer++ {
		for inner := range 9 {
			for at := range len(ofKind(outer).needs) {
				r := ofKind(outer)
				r.needs[at] = ofKind(inner)
				s, ok := impl.RuleText(r.parts())
				if s != r.text() || !ok {
					t.Errorf("text %q %v, not %q", s, ok, r.text())
				}
				if l, ok := impl.ParseRule(s); !slices.Equal(l, r.parts()) || !ok {
					t.Errorf("rule of %q: %v %v", s, l, ok)
				}
			}
		}
	}
}

func TestTextsByTheDocument(t *testing.T) {
	for _, s := range []string{
		"0", "1000000", "tonnes", "grade", "rock", "level", "metal",
		"1 + 2 + 3", "1 + ( 2 + 3 )", "1 - 2 - 3", "1 - ( 2 - 3 )", "1 - ( 2 + 3 )", "1 + ( 2 - 3 )", "1 + 2 - 3 + 4",
		"1 * 2 * 3", "1 * ( 2 * 3 )", "1 / 2 / 3", "1 / ( 2 / 3 )", "1 / ( 2 * 3 )", "1 * ( 2 / 3 )", "1 * 2 / 3",
		"1 + 2 * 3", "( 1 + 2 ) * 3", "1 * 2 + 3", "1 * ( 2 + 3 )", "( 1 - 2 ) / ( 3 + 4 )", "1 - 2 / 3", "1 / ( 2 - 3 )",
		"if 1 < 2 then 3 else 4", "if 1 = 2 then 3 else 4", "if 1 > 2 then 3 else 4", "if 1 + 2 < 3 * 4 then 5 - 6 else 7 / 8",
		"if 1 < 2 then if 3 < 4 then 5 else 6 else if 7 < 8 then 9 else 10", "if ( if 1 < 2 then 3 else 4 ) > ( if 5 < 6 then 7 else 8 ) then 9 else 10",
		"1 + ( if 2 < 3 then 4 else 5 )", "( if 2 < 3 then 4 else 5 ) + 1", "1 * ( if 2 < 3 then 4 else 5 )", "( if 2 < 3 then 4 else 5 ) - ( if 6 = 7 then 8 else 9 )",
		"if 1 < 2 then 3 else 4 + 5", "( if 1 < 2 then 3 else 4 ) / 5",
	} {
		l := mustParse(t, s)
		if text, ok := impl.RuleText(l); text != s || !ok {
			t.Errorf("text of %q: %q %v", s, text, ok)
		}
	}
	for s, want := range map[string]string{
		"( 7 )": "7", "( ( metal ) )": "metal", "( 1 + 2 ) + 3": "1 + 2 + 3", "( 1 * 2 ) / 3": "1 * 2 / 3", "1 + ( 2 * 3 )": "1 + 2 * 3", "( 1 * 2 ) + 3": "1 * 2 + 3",
		"( if 1 < 2 then 3 else 4 )": "if 1 < 2 then 3 else 4", "if ( 1 + 2 ) < ( 3 * 4 ) then ( 5 - 6 ) else ( 7 )": "if 1 + 2 < 3 * 4 then 5 - 6 else 7",
		"if 1 < 2 then ( if 3 < 4 then 5 else 6 ) else ( if 7 < 8 then 9 else 10 )": "if 1 < 2 then if 3 < 4 then 5 else 6 else if 7 < 8 then 9 else 10",
		"( ( 1 ) - ( ( 2 ) - ( 3 ) ) )":                                             "1 - ( 2 - 3 )", "if 1 < 2 then 3 else ( 4 + 5 )": "if 1 < 2 then 3 else 4 + 5",
	} {
		if text, ok := impl.RuleText(mustParse(t, s)); text != want || !ok {
			t.Errorf("text of %q: %q %v, not %q", s, text, ok, want)
		}
	}
}

// wrongRuleTexts have the numbers of words that can begin a text.
func wrongRuleTexts() map[string]int {
	return map[string]int{
		"": 0, " ": 0, "  ": 0, " 1": 0, "1 ": 1, "1  + 2": 1, "1 +  2": 2, "1 + 2 ": 3, "1\t+ 2": 0, "1 + 2\n": 2, "1\n": 0,
		"x": 0, "Tonnes": 0, "tonne": 0, "tonness": 0, "grades": 0, "1+2": 0, "(1)": 0, "( 1)": 1, "( 1": 2, "( )": 1, ") 1": 0, "1 )": 1, "( 1 ) )": 3, "( ( 1 )": 4,
		"+": 0, "+ 1": 0, "1 +": 2, "1 + +": 2, "1 + ) 2": 2, "1 2": 1, "1 tonnes": 1, "1 ( 2 )": 1, "( 1 ) ( 2 )": 3, "1 * * 2": 2, "1 - - 2": 2, "1 % 2": 1, "- 1": 0,
		"01": 0, "00": 0, "-1": 0, "+1": 0, "-0": 0, "1000001": 0, "9999999": 0, "1_000": 0, "1e3": 0, "0x1": 0, "1.0": 0, "1,0": 0, "9223372036854775807": 0, "9223372036854775808": 0, "18446744073709551617": 0, "٣": 0,
		"1 + 1000001": 2, "2 * 007": 2, "grade - -5": 2, "rock / 1 000": 3,
		"if": 1, "if 1": 2, "if 1 <": 3, "if 1 < 2": 4, "if 1 < 2 then": 5, "if 1 < 2 then 3": 6, "if 1 < 2 then 3 else": 7,
		"if if": 1, "if then": 1, "if 1 then": 2, "if 1 < 2 else": 4, "if 1 < 2 then 3 then": 6, "if 1 < 2 then 3 )": 6, "if 1 < 2 then 3 else 4 else 5": 8, "if 1 < 2 < 3": 4, "if 1 <= 2": 2, "if 1 == 2": 2, "if 1 < = 2": 3, "if ( 1 < 2 ) then 3 else 4": 3,
		"if if 1 < 2 then 3 else 4 < 5 then 6 else 7": 1, "if 1 < if 2 < 3 then 4 else 5 then 6 else 7": 3, "1 + if 2 < 3 then 4 else 5": 2, "1 * if": 2, "if 1 < 2 then 3 else 4 < 5": 8, "( if 1 < 2 then 3 else 4": 9, "( if 1 < 2 then 3 ) else 4": 7,
		"1 < 2": 1, "1 = 1": 1, "( 1 < 2 )": 2, "then": 0, "else 1": 0, "if 1 < 2 Then 3 else 4": 4, "IF 1 < 2 then 3 else 4": 0, "if 1 < 2 then 3 else if 4 > 5 then 6": 13,
	}
}

func TestTextsThatNoRuleHas(t *testing.T) {
	for s, want := range wrongRuleTexts() {
		if l, ok := impl.ParseRule(s); len(l) != 0 || ok {
			t.Errorf("rule of %q: %v %v", s, l, ok)
		}
		if n, ok := impl.RightWords(s); n != want || !ok {
			t.Errorf("right words of %q: %d %v, not %d", s, n, ok, want)
		}
	}
	// Texts of lists that are too long or too deep have right words alone.
	for _, s := range []string{flatRule(21, num(1)).text(), flatRule(21, num(1)).markedText(), flatRule(60, num(1)).text(), chain(13, num(1)).text(), chain(20, field(3)).text(), on(6, num(1), num(1), num(1), chain(12, num(1))).text()} {
		if l, ok := impl.ParseRule(s); len(l) != 0 || ok {
			t.Errorf("rule of %q: %v %v", s, l, ok)
		}
		if n, ok := impl.RightWords(s); n != len(strings.Split(s, " ")) || !ok {
			t.Errorf("right words of %q: %d %v", s, n, ok)
		}
	}
}

func TestLengthsOfTexts(t *testing.T) {
	open, close := strings.Repeat("( ", 149), strings.Repeat(" )", 149)
	fits := open + "1000" + close
	for _, c := range []struct {
		s     string
		is    bool
		right int
	}{
		{fits, len(fits) == 600, 299},
		{strings.Repeat("( ", 299) + "10", false, 300},
		{strings.Repeat("1 + ", 149) + "1000", false, 299},
		{strings.Repeat("1 + ", 149) + "1 + ", false, 300},
		{strings.Repeat("x", 600), false, 0},
		{strings.Repeat(" ", 600), false, 0},
	} {
		if l, ok := impl.ParseRule(c.s); ok != c.is || ok && !slices.Equal(l, []impl.Part{{Value: 1000}}) {
			t.Errorf("rule of %q: %v %v", c.s, l, ok)
		}
		if n, ok := impl.RightWords(c.s); n != c.right || !ok || len(c.s) != 600 {
			t.Errorf("right words of %q, of %d bytes: %d %v", c.s, len(c.s), n, ok)
		}
	}
	for _, s := range []string{open + "10000" + close, open + "level" + close, strings.Repeat("1 + ", 150) + "1", strings.Repeat("1", 601), strings.Repeat(" ", 601), strings.Repeat("( ", 100000), strings.Repeat("if ", 100000)} {
		if l, ok := impl.ParseRule(s); len(l) != 0 || ok {
			t.Errorf("rule of a text of %d bytes: %v %v", len(s), l, ok)
		}
		if n, ok := impl.RightWords(s); n != 0 || ok {
			t.Errorf("right words of a text of %d bytes: %d %v", len(s), n, ok)
		}
	}
}

var decimal = regexp.MustCompile(`^(0|[1-9][0-9]{0,5}|1000000)$`)

// scanByHand reads words with a stack of what is still open, and returns how many are right and how they can go on to a text.
func scanByHand(words []string) (int, []string) {
	var open []string
	mode := "rule"
	turn := func(from, to, next string) bool {
		if mode != "value" || len(open) == 0 || open[len(open)-1] != from {
			return false
		}
		open = open[:len(open)-1]
		if to != "" {
			open = append(open, to)
		}
		mode = next
		return true
	}
	take := func(word string) bool {
		switch {
		case strings.Contains(" + - * / ", " "+word+" ") && word != "":
			is := mode == "value"
			mode = "atom"
			return is
		case word == "<" || word == "=" || word == ">":
			return turn("sign", "then", "atom")
		case word == "then":
			return turn("then", "else", "rule")
		case word == "else":
			return turn("else", "", "rule")
		case word == ")":
			return turn(")", "", "value")
		case mode == "value":
			return false
		case word == "if":
			is := mode == "rule"
			open, mode = append(open, "sign"), "atom"
			return is
		case word == "(":
			open, mode = append(open, ")"), "rule"
			return true
		}
		mode = "value"
		return decimal.MatchString(word) || slices.Contains([]string{"tonnes", "grade", "rock", "level", "metal"}, word)
	}
	for at, word := range words {
		if !take(word) {
			return at, nil
		}
	}
	var rest []string
	if mode != "value" {
		rest = append(rest, "1")
	}
	for _, what := range slices.Backward(open) {
		switch what {
		case "sign":
			rest = append(rest, "<", "1", "then", "1", "else", "1")
		case "then":
			rest = append(rest, "then", "1", "else", "1")
		case "else":
			rest = append(rest, "else", "1")
		case ")":
			rest = append(rest, ")")
		}
	}
	return len(words), rest
}

// checkRightWords demands that the right words can go on to a rule, and that one more could not.
func checkRightWords(t *testing.T, words []string) int {
	t.Helper()
	s := strings.Join(words, " ")
	want, rest := scanByHand(words)
	n, ok := impl.RightWords(s)
	if n != want || !ok {
		t.Errorf("right words of %q: %d %v, not %d", s, n, ok, want)
	}
	if want < len(words) {
		return want
	}
	whole := strings.Join(slices.Concat(words, rest), " ")
	if n, ok := impl.RightWords(whole); len(whole) <= 600 && (n != len(words)+len(rest) || !ok) {
		t.Errorf("right words of %q: %d %v", whole, n, ok)
	}
	if l, ok := impl.ParseRule(whole); len(words) < 12 && (!impl.IsRule(l) || !ok) {
		t.Errorf("%q can not go on to %q: %v %v", s, whole, l, ok)
	}
	return want
}

// Promise 4: wrong words are found.
func TestRightWordsOfAllShortTexts(t *testing.T) {
	vocabulary := []string{"if", "<", ">", "then", "else", "1", "grade", "+", "*", "(", ")", "x", ""}
	var grow func(words []string)
	grow = func(words []string) {
		if right := checkRightWords(t, words); len(words) > 6 || right < len(words)-1 {
			return
		}
		for _, word := range vocabulary {
			grow(append(slices.Clone(words), word))
		}
	}
	for _, word := range vocabulary {
		grow([]string{word})
	}
}

func TestWrongWordsInTexts(t *testing.T) {
	words := []string{"if", "<", "=", ">", "then", "else", "0", "1000000", "1000001", "01", "tonnes", "metal", "+", "-", "*", "/", "(", ")", "no", ""}
	for k, r := range goodRules()[:700] {
		text := strings.Split(r.text(), " ")
		if n, ok := impl.RightWords(r.text()); n != len(text) || !ok {
			t.Errorf("right words of %q: %d %v", r.text(), n, ok)
		}
		for at := range text {
			checkRightWords(t, text[:at+1])
			checkRightWords(t, slices.Delete(slices.Clone(text), at, at+1))
			changed := slices.Clone(text)
			changed[at] = words[(k+at)%len(words)]
			checkRightWords(t, changed)
			checkRightWords(t, slices.Insert(slices.Clone(text), at, words[(3*k+at)%len(words)]))
		}
	}
}

func TestRuleValues(t *testing.T) {
	values, failures := 0, 0
	for _, r := range goodRules() {
		for _, fields := range goodFields() {
			want, is := r.valueByHand(fields)
			if n, ok := impl.EvalRule(r.parts(), fields); n != want || ok != is {
				t.Error("value", r.text(), fields, n, ok, "not", want, is)
			}
			if is {
				values++
			} else {
				failures++
			}
		}
	}
	if values < 1000 || failures < 1000 {
		t.Error("few of one kind", values, failures)
	}
}

func TestRuleValuesAtTheirEdges(t *testing.T) {
	fields := []int{100, 20, 3, 4, 10000000}
	for _, c := range []struct {
		s    string
		want int
		ok   bool
	}{
		{"0", 0, true}, {"1000000", 1000000, true}, {"tonnes", 100, true}, {"grade", 20, true}, {"rock", 3, true}, {"level", 4, true}, {"metal", 10000000, true},
		{"3 - 5", -2, true}, {"10 - 2 - 3", 5, true}, {"10 - ( 2 - 3 )", 11, true}, {"2 + 3 * 4", 14, true}, {"( 2 + 3 ) * 4", 20, true}, {"100 / 5 / 2", 10, true}, {"100 / ( 5 / 2 )", 50, true},
		// A divisor of 0 fails, whatever it divides.
		{"1 / 0", 0, false}, {"0 / 0", 0, false}, {"0 / 1", 0, true}, {"1 / ( grade - 20 )", 0, false}, {"( 1 / 0 ) * 0", 0, false}, {"0 * ( 1 / 0 )", 0, false},
		// Quotients are rounded down.
		{"7 / 2", 3, true}, {"6 / 2", 3, true}, {"( 0 - 7 ) / 2", -4, true}, {"7 / ( 0 - 2 )", -4, true}, {"( 0 - 7 ) / ( 0 - 2 )", 3, true}, {"( 0 - 6 ) / 2", -3, true}, {"6 / ( 0 - 2 )", -3, true}, {"( 0 - 6 ) / ( 0 - 2 )", 3, true}, {"( 0 - 1 ) / 1000000", -1, true}, {"1 / ( 0 - 1000000 )", -1, true}, {"( 0 - 1 ) / ( 0 - 1000000 )", 0, true}, {"0 / ( 0 - 3 )", 0, true},
		// Numbers on the way.
		{"metal * tonnes", 1000000000, true}, {"metal * tonnes + 1", 0, false}, {"metal * tonnes - 1", 999999999, true}, {"metal * tonnes + 1 - 1", 0, false}, {"metal * tonnes - 1 + 1", 1000000000, true}, {"metal * tonnes - ( 0 - 1 )", 0, false},
		{"0 - metal * tonnes", -1000000000, true}, {"0 - metal * tonnes - 1", 0, false}, {"0 - metal * tonnes - 1 + 1", 0, false}, {"0 - metal * tonnes + ( 0 - 1 )", 0, false}, {"( 0 - metal ) * tonnes", -1000000000, true}, {"( 0 - metal ) * ( tonnes + 1 )", 0, false}, {"metal * ( tonnes + 1 ) / 2", 0, false}, {"( metal * ( tonnes + 1 ) ) * 0", 0, false},
		{"metal * tonnes * ( metal * tonnes )", 0, false}, {"metal * tonnes / ( 0 - 1 )", -1000000000, true}, {"( 0 - metal * tonnes ) / ( 0 - 1 )", 1000000000, true}, {"metal * tonnes * ( 0 - metal * tonnes )", 0, false}, {"1000 * 1000000", 1000000000, true}, {"1001 * 1000000", 0, false}, {"metal * tonnes + metal * tonnes", 0, false}, {"0 - metal * tonnes - metal * tonnes", 0, false},
	} {
		if n, ok := impl.EvalRule(mustParse(t, c.s), fields); n != c.want || ok != c.ok {
			t.Error("value", c, n, ok)
		}
	}
}

func TestChosenRules(t *testing.T) {
	fields := []int{100, 20, 3, 4, 10000000}
	for _, c := range []struct {
		s    string
		want int
		ok   bool
	}{
		{"if 1 < 2 then 3 else 4", 3, true}, {"if 2 < 2 then 3 else 4", 4, true}, {"if 3 < 2 then 3 else 4", 4, true},
		{"if 1 = 2 then 3 else 4", 4, true}, {"if 2 = 2 then 3 else 4", 3, true}, {"if 3 = 2 then 3 else 4", 4, true},
		{"if 1 > 2 then 3 else 4", 4, true}, {"if 2 > 2 then 3 else 4", 4, true}, {"if 3 > 2 then 3 else 4", 3, true},
		{"if 1 - 2 < 0 then 3 else 4", 3, true}, {"if 0 > 0 - 1 then 3 else 4", 3, true},
		// The rule that is not chosen may fail, the others may not.
		{"if grade > 0 then metal / grade else metal / 0", 500000, true}, {"if rock = 4 then 1 / 0 else 7", 7, true}, {"if rock = 3 then 1 / 0 else 7", 0, false}, {"if rock < 3 then 7 else metal * metal", 0, false}, {"if rock < 4 then 7 else metal * metal", 7, true},
		{"if 1 / 0 < 1 then 2 else 2", 0, false}, {"if 1 < 1 / 0 then 2 else 2", 0, false}, {"if metal * metal > 0 then 1 else 1", 0, false}, {"if 0 = metal * metal then 1 else 1", 0, false},
		{"if 1 < 2 then if 2 < 1 then 1 / 0 else 5 else metal * metal", 5, true}, {"1 + ( if 1 > 2 then 1 / 0 else 5 ) * 2", 11, true}, {"( if 1 > 2 then 1 else 0 ) / ( if 1 > 2 then 1 else 0 )", 0, false},
		{"if ( if 1 < 2 then 5 else 1 / 0 ) = 5 then tonnes else 1 / 0", 100, true},
	} {
		if n, ok := impl.EvalRule(mustParse(t, c.s), fields); n != c.want || ok != c.ok {
			t.Error("value", c, n, ok)
		}
	}
}

func TestWrongFieldsGiveNoValue(t *testing.T) {
	for _, fields := range wrongFields() {
		for _, r := range []ruleTree{num(1), field(0), field(4), on(2, field(0), num(1)), on(6, num(1), num(2), num(3), field(4)), chain(12, num(1))} {
			if n, ok := impl.EvalRule(r.parts(), fields); n != 0 || ok {
				t.Error("value", r.text(), fields, n, ok)
			}
		}
	}
	for at := range 5 {
		fields := []int{7, 7, 7, 7, 7}
		for _, n := range []int{0, 10000000} {
			fields[at] = n
			if got, ok := impl.EvalRule(field(at).parts(), fields); got != n || !ok {
				t.Error("value of a field", at, n, got, ok)
			}
		}
	}
}

// Promise 4: folded constants change no value.
func TestFoldedRulesKeepTheirValues(t *testing.T) {
	changed := 0
	for _, r := range goodRules() {
		l := r.parts()
		folded, ok := impl.FoldRule(l)
		if !ok || !impl.IsRule(folded) || !slices.Equal(folded, r.foldByHand()) {
			t.Error("folded", r.text(), folded, ok)
			continue
		}
		if again, ok := impl.FoldRule(folded); !slices.Equal(again, folded) || !ok {
			t.Error("folded twice", r.text(), again, ok)
		}
		for _, fields := range goodFields() {
			a, is := impl.EvalRule(l, fields)
			if b, fine := impl.EvalRule(folded, fields); a != b || is != fine {
				t.Error("a folded rule has another value", r.text(), fields, a, is, b, fine)
			}
		}
		if !slices.Equal(folded, l) {
			changed++
		}
	}
	if changed < 300 {
		t.Error("few rules are folded", changed)
	}
}

func TestFoldedRules(t *testing.T) {
	for s, want := range map[string]string{
		"7": "7", "rock": "rock", "2 * 3 + grade": "6 + grade", "grade + 2 * 3": "grade + 6", "grade + 2 + 3": "grade + 2 + 3", "2 + 3 + grade": "5 + grade", "1 + 2 * 3 - 4": "3", "tonnes * ( 7 - 5 )": "tonnes * 2",
		// Less than 0, more than 1000000, exactly these, or no value at all.
		"3 - 5": "3 - 5", "5 - 5": "0", "3 - 5 + 2": "0", "grade + ( 3 - 5 )": "grade + ( 3 - 5 )", "( 3 - 5 ) * ( 2 + 1 )": "( 3 - 5 ) * 3", "( 3 - 5 ) * ( 1 - 2 )": "2", "( 3 - 5 ) / 3 + metal": "( 3 - 5 ) / 3 + metal",
		"1000 * 1000": "1000000", "1000 * 1000 + 1": "1000000 + 1", "1000000 + 1": "1000000 + 1", "( 1000000 + 1 ) - 1": "1000000", "level * ( 1001 * 1000 )": "level * ( 1001 * 1000 )", "( 1000 * 1000 ) * ( 1000 * 1000 )": "1000000 * 1000000", "1000 * 1000 * ( 1000 * 1000 ) / 1000": "1000000 * 1000000 / 1000", "( 1000000 * 1000 + 1 ) / 2000": "( 1000000 * 1000 + 1 ) / 2000", "1000000 * 1000 / 2000": "500000",
		"1 / 0": "1 / 0", "( 1 + 1 ) / ( 2 - 2 )": "2 / 0", "0 * ( 1 / 0 )": "0 * ( 1 / 0 )", "rock / ( 1 - 1 )": "rock / 0",
		// Choices count with the rule that is chosen.
		"if 1 < 2 then 3 else 4": "3", "if 1 < 2 then 3 else 1 / 0": "3", "if 1 > 2 then 3 else 1 / 0": "if 1 > 2 then 3 else 1 / 0", "if 1 > 2 then 3 else 4 - 5": "if 1 > 2 then 3 else 4 - 5", "if 1 < 1 + 1 then grade else 2 + 2": "if 1 < 2 then grade else 4", "if 1 < 2 then 3 else grade": "if 1 < 2 then 3 else grade", "if grade < 1 + 1 then 3 / 2 else if 1 = 1 then 5 else 6": "if grade < 2 then 1 else 5", "if 1 / 0 < 1 + 1 then 2 + 2 else 3 + 3": "if 1 / 0 < 2 then 4 else 6",
		"tonnes + ( if 1 = 1 then 2 else 3 )": "tonnes + 2", "tonnes * ( if 1 = 2 then 2 else 2 - 3 )": "tonnes * ( if 1 = 2 then 2 else 2 - 3 )",
		"grade - grade": "grade - grade", "0 * grade": "0 * grade",
	} {
		folded, ok := impl.FoldRule(mustParse(t, s))
		if text, fine := impl.RuleText(folded); text != want || !ok || !fine {
			t.Errorf("%q is folded to %q %v %v, not to %q", s, text, ok, fine, want)
		}
	}
}

func TestPutFields(t *testing.T) {
	rules := goodRules()
	put, refused := 0, 0
	for k, r := range rules {
		for f := range 5 {
			with := rules[(7*k+f)%len(rules)]
			if k%2 == 0 {
				with = rules[(k+f)%24]
			}
			want := r.put(f, with).parts()
			l, ok := impl.PutField(r.parts(), f, with.parts())
			if isRuleByHand(want) != ok || ok && !slices.Equal(l, want) || !ok && len(l) != 0 {
				t.Error("put", r.text(), f, with.text(), l, ok)
			}
			if ok && !slices.Equal(want, r.parts()) {
				put++
			}
			if !ok {
				refused++
			}
		}
	}
	if put < 300 || refused < 300 {
		t.Error("few of one kind", put, refused)
	}
}

func TestPutFieldsAtTheirEdges(t *testing.T) {
	for _, c := range []struct {
		s     string
		field int
		with  string
		want  string
	}{
		{"tonnes * ( grade - 5 )", 1, "7", "tonnes * ( 7 - 5 )"}, {"tonnes * grade", 1, "rock + 1", "tonnes * ( rock + 1 )"}, {"if level < 1 then level else 2 * level", 3, "4", "if 4 < 1 then 4 else 2 * 4"},
		// A field that is not there, its number, and fields in what is put.
		{"3 + grade", 3, "7", "3 + grade"}, {"1 + 4", 4, "7", "1 + 4"}, {"tonnes + tonnes", 0, "tonnes - 1", "tonnes - 1 + ( tonnes - 1 )"}, {"rock", 2, "rock", "rock"}, {"rock / level", 2, "level", "level / level"}, {"rock / level", 3, "rock / level", "rock / ( rock / level )"},
	} {
		l, ok := impl.PutField(mustParse(t, c.s), c.field, mustParse(t, c.with))
		if s, fine := impl.RuleText(l); s != c.want || !ok || !fine {
			t.Errorf("put %v: %q %v %v", c, s, ok, fine)
		}
	}
	long := on(2, flatRule(18, num(2)), field(0))
	deep := on(3, field(0), num(1))
	for _, c := range []struct {
		r    ruleTree
		with ruleTree
		ok   bool
	}{
		// Of 39 parts and of 41, of depth 12 and of 13.
		{long, on(2, num(1), num(1)), true}, {long, flatRule(3, num(1)), false}, {field(0), flatRule(20, field(0)), true}, {flatRule(10, field(0)), on(2, num(1), num(1)), true}, {flatRule(11, field(0)), on(2, num(1), num(1)), false}, {flatRule(20, field(0)), flatRule(20, field(0)), false},
		{deep, chain(11, num(2)), true}, {deep, chain(12, num(2)), false}, {field(0), chain(12, num(2)), true}, {on(6, num(1), num(1), num(1), field(0)), chain(11, num(2)), true}, {on(6, num(1), num(1), num(1), field(0)), chain(12, num(2)), false},
		// Nothing is put where the field is not there, however long or deep it is.
		{flatRule(20, field(1)), flatRule(20, num(1)), true}, {chain(12, field(1)), chain(12, num(1)), true},
	} {
		want := c.r.put(0, c.with).parts()
		l, ok := impl.PutField(c.r.parts(), 0, c.with.parts())
		if ok != c.ok || ok && !slices.Equal(l, want) || !ok && len(l) != 0 {
			t.Error("put", c.r.text(), c.with.text(), l, ok)
		}
	}
}

// checkNoRule demands that a list that is no rule gives nothing, also beside a rule.
func checkNoRule(t *testing.T, l []impl.Part) {
	t.Helper()
	if s, ok := impl.RuleText(l); s != "" || ok {
		t.Error("text", l, s, ok)
	}
	for _, fields := range [][]int{nil, {1, 1, 1, 1, 1}, {0, 0, 0, 0, 0, 0}} {
		if n, ok := impl.EvalRule(l, fields); n != 0 || ok {
			t.Error("value", l, fields, n, ok)
		}
	}
	if f, ok := impl.FieldsOfRule(l); len(f) != 0 || ok {
		t.Error("fields", l, f, ok)
	}
	if n, ok := impl.DepthOfRule(l); n != 0 || ok {
		t.Error("depth", l, n, ok)
	}
	if folded, ok := impl.FoldRule(l); len(folded) != 0 || ok {
		t.Error("folded", l, folded, ok)
	}
	for _, f := range append([]int{0, 1, 4}, edgeInts()...) {
		if n, ok := impl.SizeOfPart(l, f); n != 0 || ok {
			t.Error("size", l, f, n, ok)
		}
		for _, other := range [][]impl.Part{{{Value: 7}}, {{Kind: 1}}, l} {
			if put, ok := impl.PutField(l, f, other); len(put) != 0 || ok {
				t.Error("put into no rule", l, f, put, ok)
			}
			if put, ok := impl.PutField(other, f, l); len(put) != 0 || ok {
				t.Error("put no rule", l, f, put, ok)
			}
		}
	}
}

func TestWrongRulesGiveNothing(t *testing.T) {
	for _, l := range wrongRules() {
		checkNoRule(t, l)
	}
	for _, r := range goodRules() {
		l := r.parts()
		for _, f := range outside(4) {
			if put, ok := impl.PutField(l, f, []impl.Part{{Value: 1}}); len(put) != 0 || ok {
				t.Error("put", l, f, put, ok)
			}
		}
		for _, i := range outside(len(l) - 1) {
			if n, ok := impl.SizeOfPart(l, i); n != 0 || ok {
				t.Error("size", l, i, n, ok)
			}
		}
	}
}

// useRule calls all functions of a list of parts and writes into what they return, so that shared memory shows.
func useRule(l, with []impl.Part, fields []int) {
	impl.IsRule(l)
	impl.RuleText(l)
	impl.EvalRule(l, fields)
	impl.DepthOfRule(l)
	own, _ := impl.FieldsOfRule(l)
	spoilList(own)
	folded, _ := impl.FoldRule(l)
	clear(folded[:cap(folded)])
	for _, n := range edgeInts() {
		impl.SizeOfPart(l, n)
		put, _ := impl.PutField(l, n, with)
		clear(put[:cap(put)])
	}
}

// Promise 33: no argument makes a function of chapter 4 panic.
func TestRulesNeverPanic(t *testing.T) {
	lists := wrongRules()
	for _, r := range goodRules()[:300] {
		lists = append(lists, r.parts())
	}
	for _, kind := range append(edgeInts(), 2, 3, 4, 7) {
		for _, value := range edgeInts() {
			p := impl.Part{Kind: kind, Value: value}
			for n := range 6 {
				lists = append(lists, append(slices.Repeat([]impl.Part{{Value: 1}}, n), p))
			}
			lists = append(lists, slices.Repeat([]impl.Part{p}, 39))
		}
	}
	fields := append(wrongFields(), goodFields()...)
	for k, l := range lists {
		noPanic(t, fmt.Sprint("a function of the parts ", l), func() {
			useRule(l, lists[k*k%len(lists)], fields[k%len(fields)])
		})
	}
	texts := []string{strings.Repeat("( ", 300), strings.Repeat("if ( ", 120), strings.Repeat("if 1 < 2 then ", 42), strings.Repeat("1 + ", 150), "\x00", "\xff\xfe", "1 + \xff", strings.Repeat("9", 600), strings.Repeat("( ", 1000000)}
	for s := range wrongRuleTexts() {
		texts = append(texts, s)
	}
	for seed, r := range goodRules() {
		next := numbersFrom(uint64(seed))
		text := []byte(r.text())
		text[next(len(text)-1)] = byte(next(255))
		texts = append(texts, string(text))
	}
	for _, s := range texts {
		noPanic(t, fmt.Sprintf("a function of the text %.50q", s), func() {
			impl.ParseRule(s)
			impl.RightWords(s)
		})
	}
}

// roomyParts gives a list with memory behind it, and all of this memory.
func roomyParts(l []impl.Part) (list, whole []impl.Part) {
	whole = append(slices.Clone(l), impl.Part{Kind: -9, Value: -8}, impl.Part{Kind: 1, Value: 1}, impl.Part{Kind: math.MinInt})
	return whole[:len(l)], whole
}

// Promise 33: no function of chapter 4 changes its arguments or what lies behind them.
func TestRuleArgumentsStay(t *testing.T) {
	lists := wrongRules()
	for _, r := range goodRules() {
		lists = append(lists, r.parts())
	}
	fields := append(wrongFields(), goodFields()...)
	for k, given := range lists {
		l, whole := roomyParts(given)
		with, wholeWith := roomyParts(lists[(3*k+1)%len(lists)])
		f, wholeFields := roomy(fields[k%len(fields)])
		kept, keptWith, keptFields := slices.Clone(whole), slices.Clone(wholeWith), slices.Clone(wholeFields)
		useRule(l, with, f)
		useRule(with, l, f)
		if !slices.Equal(whole, kept) || !slices.Equal(wholeWith, keptWith) || !slices.Equal(wholeFields, keptFields) {
			t.Fatal("arguments are changed", given, with, f)
		}
	}
}

// checkFreshParts spoils one result, with the memory behind its length, and demands that an earlier one and a later one are not touched.
func checkFreshParts(t *testing.T, what string, call func() []impl.Part) {
	t.Helper()
	first, second := call(), call()
	kept := slices.Clone(first)
	clear(second[:cap(second)])
	if third := call(); !slices.Equal(first, kept) || !slices.Equal(third, kept) {
		t.Errorf("%s: results share memory: %v %v, not %v", what, first, third, kept)
	}
}

// Promise 33: results are new memory.
func TestRuleResultsAreNew(t *testing.T) {
	for _, r := range goodRules() {
		l := r.parts()
		checkFresh(t, "FieldsOfRule", func() []int { f, _ := impl.FieldsOfRule(l); return f })
		checkFreshParts(t, "FoldRule", func() []impl.Part { p, _ := impl.FoldRule(l); return p })
		checkFreshParts(t, "ParseRule", func() []impl.Part { p, _ := impl.ParseRule(r.text()); return p })
		for f := range 5 {
			checkFreshParts(t, "PutField", func() []impl.Part { p, _ := impl.PutField(l, f, []impl.Part{{Value: 3}}); return p })
			checkFreshParts(t, "PutField", func() []impl.Part { p, _ := impl.PutField([]impl.Part{{Kind: 1, Value: f}}, f, l); return p })
		}
	}
}
