package tests

import (
	"fmt"
	"math"
	"slices"
	"strings"
	"testing"

	"loop.example/g00914/impl"
)

// eachDepths has all lists of so many numbers in 0..depth, in lexicographic order.
func eachDepths(columns, depth int, see func(l []int)) {
	l := make([]int, columns)
	for {
		see(l)
		c := columns - 1
		for c >= 0 && l[c] == depth {
			l[c] = 0
			c--
		}
		if c < 0 {
			return
		}
		l[c]++
	}
}

func isProfileByHand(columns, depth int, l []int) bool {
	for c, d := range l {
		if d < 0 || d > depth || c > 0 && apart(d, l[c-1]) > 1 {
			return false
		}
	}
	return len(l) == columns
}

// profilesByHand are all profiles in lexicographic order: each beginning is followed by all depths that differ by at most 1.
func profilesByHand(columns, depth int) [][]int {
	profiles := [][]int{{}}
	for c := range columns {
		var longer [][]int
		for _, p := range profiles {
			for d := range depth + 1 {
				if c == 0 || apart(d, p[c-1]) <= 1 {
					longer = append(longer, append(slices.Clone(p), d))
				}
			}
		}
		profiles = longer
	}
	return profiles
}

// sectionOf cuts a list into columns.
func sectionOf(columns, depth int, l []int) [][]int {
	var values [][]int
	for c := range columns {
		values = append(values, slices.Clone(l[c*depth:(c+1)*depth]))
	}
	return values
}

// turnedDown has the columns of a section with the deepest value first.
func turnedDown(values [][]int) [][]int {
	turned := copyArcs(values)
	for _, column := range turned {
		slices.Reverse(column)
	}
	return turned
}

// someSections have best profiles of all kinds: one or many of them, with depths of 0 in some columns, in none or in all.
func someSections(columns, depth, seed int) [][][]int {
	n := columns * depth
	var all [][][]int
	for _, l := range append(pitValues(n, seed), goodValues(n)...) {
		all = append(all, sectionOf(columns, depth, l), turnedDown(sectionOf(columns, depth, l)))
	}
	return all
}

// worthOfDepths adds up the values of all blocks that lie above the depths.
func worthOfDepths(values [][]int, p []int) int {
	worth := 0
	for c, column := range values {
		for level, value := range column {
			if level < p[c] {
				worth += value
			}
		}
	}
	return worth
}

// isWithin tells whether no number of a list is more than the one of the other list.
func isWithin(l, most []int) bool {
	for c := range l {
		if l[c] > most[c] {
			return false
		}
	}
	return true
}

// bestProfileByHand looks at all profiles within the depths, in lexicographic order, and keeps the first one of the best.
func bestProfileByHand(values, profiles [][]int, most []int) (best []int, worth int) {
	for _, p := range profiles {
		if !isWithin(p, most) {
			continue
		}
		if value := worthOfDepths(values, p); best == nil || value > worth {
			best, worth = p, value
		}
	}
	return best, worth
}

// leastOf has the least numbers of all wanted profiles, place by place, and greatestOf the greatest ones.
func leastOf(profiles [][]int, wanted func(p []int) bool) []int {
	return pickedOf(profiles, wanted, func(a, b int) int { return min(a, b) })
}

func greatestOf(profiles [][]int, wanted func(p []int) bool) []int {
	return pickedOf(profiles, wanted, func(a, b int) int { return max(a, b) })
}

func pickedOf(profiles [][]int, wanted func(p []int) bool, pick func(a, b int) int) []int {
	var picked []int
	for _, p := range profiles {
		if !wanted(p) {
			continue
		}
		if picked == nil {
			picked = slices.Clone(p)
		}
		for c := range p {
			picked[c] = pick(picked[c], p[c])
		}
	}
	return picked
}

// depthLists are depths of all kinds, of which many are no profiles.
func depthLists(columns, depth, seed int) [][]int {
	next := numbersFrom(uint64(seed))
	mixed := func(most int) []int {
		return numbersOf(make([]int, columns), func(c, n int) int { return next(most) })
	}
	only := func(c, in, others int) []int {
		l := slices.Repeat([]int{others}, columns)
		l[c] = in
		return l
	}
	return [][]int{
		make([]int, columns), slices.Repeat([]int{depth}, columns),
		only(0, depth, 0), only(columns-1, depth, 0), only(columns/2, depth, 0),
		only(0, 0, depth), only(columns-1, 0, depth), only(columns/2, 0, depth),
		numbersOf(make([]int, columns), func(c, n int) int { return c % 2 * depth }),
		mixed(depth), mixed(depth), mixed(depth), mixed(min(2, depth)),
	}
}

func checkDepths(t *testing.T, what string, got []int, ok bool, want []int) {
	t.Helper()
	if !ok || !slices.Equal(got, want) {
		t.Errorf("%s: %v %v, not %v", what, got, ok, want)
	}
}

// checkBestProfile demands the best profile and what it is worth.
func checkBestProfile(t *testing.T, values [][]int, want []int, worth int) {
	t.Helper()
	p, value, ok := impl.BestProfile(values)
	if !slices.Equal(p, want) || value != worth || !ok {
		t.Error("BestProfile", values, p, value, ok, "not", want, worth)
	}
	if value, ok := impl.ProfileValue(values, p); value != worth || !ok {
		t.Error("the value of the best profile", values, p, value, ok, "not", worth)
	}
}

func checkBestBelow(t *testing.T, values [][]int, most, want []int, worth int) {
	t.Helper()
	if p, value, ok := impl.BestBelow(values, most); !slices.Equal(p, want) || value != worth || !ok {
		t.Error("BestBelow", values, most, p, value, ok, "not", want, worth)
	}
}

// checkFit demands the least and the greatest profile for depths that need not be a profile.
func checkFit(t *testing.T, values, profiles [][]int, depths []int) {
	t.Helper()
	what := fmt.Sprint(depths, " in ", values)
	p, ok := impl.LeastProfile(values, depths)
	checkDepths(t, "least profile "+what, p, ok, leastOf(profiles, func(p []int) bool { return isWithin(depths, p) }))
	p, ok = impl.GreatestProfile(values, depths)
	checkDepths(t, "greatest profile "+what, p, ok, greatestOf(profiles, func(p []int) bool { return isWithin(p, depths) }))
}

// drawnByHand has the lines of a profile, and the numbers of its blocks.
func drawnByHand(depth int, p []int) (text string, blocks []int) {
	for level := range depth {
		for c, d := range p {
			if level >= d {
				text += "."
				continue
			}
			text += "#"
			blocks = append(blocks, level*len(p)+c)
		}
		text += "\n"
	}
	return text, blocks
}

// checkProfile demands what the document says of one profile.
func checkProfile(t *testing.T, values [][]int, p []int) {
	t.Helper()
	if is, ok := impl.IsProfile(values, p); !is || !ok {
		t.Error("IsProfile", values, p, is, ok)
	}
	if value, ok := impl.ProfileValue(values, p); value != worthOfDepths(values, p) || !ok {
		t.Error("ProfileValue", values, p, value, ok)
	}
	text, blocks := drawnByHand(len(values[0]), p)
	got, ok := impl.ProfileBlocks(values, p)
	checkList(t, fmt.Sprint("blocks of ", p, values), got, ok, blocks)
	if s, ok := impl.ProfileText(values, p); s != text || !ok {
		t.Errorf("ProfileText %v %v: %q %v", values, p, s, ok)
	}
	l, ok := impl.SectionValues(values)
	if len(l) != len(values)*len(values[0]) || !ok || sumByHand(l, blocks) != worthOfDepths(values, p) {
		t.Error("the values of the blocks of a profile", values, p, l, ok)
	}
}

func checkNoProfile(t *testing.T, values [][]int, l []int) {
	t.Helper()
	if is, ok := impl.IsProfile(values, l); is || !ok {
		t.Error("IsProfile", values, l, is, ok)
	}
	checkNothingOfProfile(t, values, l)
}

func checkNothingOfProfile(t *testing.T, values [][]int, l []int) {
	t.Helper()
	if value, ok := impl.ProfileValue(values, l); value != 0 || ok {
		t.Error("ProfileValue", values, l, value, ok)
	}
	if blocks, ok := impl.ProfileBlocks(values, l); len(blocks) != 0 || ok {
		t.Error("ProfileBlocks", values, l, blocks, ok)
	}
	if s, ok := impl.ProfileText(values, l); s != "" || ok {
		t.Error("ProfileText", values, l, s, ok)
	}
}

func checkNothingOfDepths(t *testing.T, values [][]int, l []int) {
	t.Helper()
	if p, value, ok := impl.BestBelow(values, l); len(p) != 0 || value != 0 || ok {
		t.Error("BestBelow", values, l, p, value, ok)
	}
	if p, ok := impl.LeastProfile(values, l); len(p) != 0 || ok {
		t.Error("LeastProfile", values, l, p, ok)
	}
	if p, ok := impl.GreatestProfile(values, l); len(p) != 0 || ok {
		t.Error("GreatestProfile", values, l, p, ok)
	}
}

// eachShape has all numbers of columns and depths that sections have.
func eachShape(see func(columns, depth int)) {
	for columns := 1; columns <= 8; columns++ {
		for depth := 1; depth <= 6; depth++ {
			see(columns, depth)
		}
	}
}

func TestSectionExample(t *testing.T) {
	values := [][]int{{1, -9}, {-2, 8}, {1, -9}}
	checkBestProfile(t, values, []int{1, 2, 1}, 8)
	p, ok := impl.LeastProfile(values, []int{0, 2, 0})
	checkDepths(t, "least profile", p, ok, []int{1, 2, 1})
	p, ok = impl.GreatestProfile(values, []int{0, 2, 0})
	checkDepths(t, "greatest profile", p, ok, []int{0, 1, 0})
	checkBestBelow(t, values, []int{0, 2, 1}, []int{0, 0, 1}, 1)
	l, ok := impl.SectionValues(values)
	checkDepths(t, "values", l, ok, []int{1, -2, 1, -9, 8, -9})
	l, ok = impl.ProfileBlocks(values, []int{1, 2, 1})
	checkList(t, "blocks", l, ok, []int{0, 1, 2, 4})
	if s, ok := impl.ProfileText(values, []int{1, 2, 1}); s != "###\n.#.\n" || !ok {
		t.Errorf("text %q %v", s, ok)
	}
}

// Promise 10 for all sections of few blocks with all small values, and all depths.
func TestProfilesOfFewBlocks(t *testing.T) {
	for _, c := range []struct{ columns, depth, most int }{{1, 1, 4}, {1, 3, 3}, {2, 1, 4}, {2, 2, 2}, {3, 1, 3}, {3, 2, 1}, {1, 6, 1}, {6, 1, 1}, {2, 3, 1}, {4, 2, 1}} {
		profiles := profilesByHand(c.columns, c.depth)
		eachValues(c.columns*c.depth, c.most, func(l []int) {
			values := sectionOf(c.columns, c.depth, l)
			deepest := slices.Repeat([]int{c.depth}, c.columns)
			best, worth := bestProfileByHand(values, profiles, deepest)
			checkBestProfile(t, values, best, worth)
			eachDepths(c.columns, c.depth, func(most []int) {
				best, worth := bestProfileByHand(values, profiles, most)
				checkBestBelow(t, values, most, best, worth)
			})
		})
	}
}

// Promise 10 for sections of all shapes: the best profile is worth as told, and no other one is worth more.
func TestBestProfilesOfAllShapes(t *testing.T) {
	eachShape(func(columns, depth int) {
		profiles := profilesByHand(columns, depth)
		for k, values := range someSections(columns, depth, 10*columns+depth) {
			if len(profiles) > 2000 && (k+columns+depth)%5 != 0 {
				continue
			}
			best, worth := bestProfileByHand(values, profiles, slices.Repeat([]int{depth}, columns))
			checkBestProfile(t, values, best, worth)
			for shift, most := range depthLists(columns, depth, k) {
				if (shift+k)%4 == 0 {
					best, worth := bestProfileByHand(values, profiles, most)
					checkBestBelow(t, values, most, best, worth)
				}
			}
		}
	})
}

// The same by arcs: a block needs the three above it, and the least best pit has the least depths, so that it is the first one in order.
func TestBestProfilesAreBestPits(t *testing.T) {
	eachShape(func(columns, depth int) {
		arcs := arcsWhere(columns*depth, func(i, k int) bool {
			return k/columns == i/columns-1 && apart(k%columns, i%columns) <= 1
		})
		for k, values := range someSections(columns, depth, columns+10*depth) {
			l, _ := impl.SectionValues(values)
			p, worth, _ := impl.BestProfile(values)
			blocks, ok := impl.ProfileBlocks(values, p)
			pit, also := impl.BestPit(arcs, l)
			if !slices.Equal(blocks, pit) || sumByHand(l, pit) != worth || !ok || !also {
				t.Error("the best pit is another one", values, p, worth, pit)
			}
			most := depthLists(columns, depth, k)[k%13]
			_, allowed := drawnByHand(depth, most)
			p, worth, _ = impl.BestBelow(values, most)
			blocks, ok = impl.ProfileBlocks(values, p)
			pit, also = impl.PitInside(arcs, l, allowed)
			if !slices.Equal(blocks, pit) || sumByHand(l, pit) != worth || !ok || !also {
				t.Error("the best pit inside is another one", values, most, p, worth, pit)
			}
			p, _ = impl.LeastProfile(values, most)
			blocks, _ = impl.ProfileBlocks(values, p)
			closure, _ := impl.LeastClosure(arcs, allowed)
			checkList(t, fmt.Sprint("least profile as a closure ", most, p), blocks, true, closure)
			p, _ = impl.GreatestProfile(values, most)
			blocks, _ = impl.ProfileBlocks(values, p)
			closure, _ = impl.GreatestInside(arcs, allowed)
			checkList(t, fmt.Sprint("greatest profile as a closure ", most, p), blocks, true, closure)
		}
	})
}

// All lists of numbers in 0..depth are looked at, whether they are profiles or not.
func TestProfilesAndOtherLists(t *testing.T) {
	eachShape(func(columns, depth int) {
		values := sectionOf(columns, depth, mixedValues(columns*depth, columns+depth))
		count := 0
		if math.Pow(float64(depth+1), float64(columns)) > 20000 {
			return
		}
		eachDepths(columns, depth, func(l []int) {
			if isProfileByHand(columns, depth, l) {
				count++
				checkProfile(t, values, l)
				return
			}
			checkNoProfile(t, values, l)
		})
		if got, ok := impl.CountProfiles(columns, depth); got != count || !ok {
			t.Error("CountProfiles", columns, depth, got, ok, "not", count)
		}
	})
}

func TestProfilesOfAllShapes(t *testing.T) {
	eachShape(func(columns, depth int) {
		profiles := profilesByHand(columns, depth)
		sections := someSections(columns, depth, columns*depth)
		step := 1 + len(profiles)/500
		for k := 0; k < len(profiles); k += step {
			values, p := sections[k%len(sections)], profiles[k]
			checkProfile(t, values, p)
			for c := range columns - 1 {
				l := slices.Clone(p)
				// A step of 1 becomes one of 2, wherever there is room for it.
				l[c] += l[c] - l[c+1]
				if apart(l[c], l[c+1]) == 2 {
					checkNoProfile(t, values, l)
				}
			}
		}
	})
}

func TestCountOfProfiles(t *testing.T) {
	eachShape(func(columns, depth int) {
		if got, ok := impl.CountProfiles(columns, depth); got != len(profilesByHand(columns, depth)) || !ok {
			t.Error("CountProfiles", columns, depth, got, ok)
		}
	})
	for _, c := range []struct{ columns, depth, want int }{{1, 1, 2}, {1, 6, 7}, {2, 1, 4}, {8, 1, 256}, {2, 2, 7}, {3, 2, 17}, {2, 6, 19}, {8, 2, 1393}, {3, 6, 53}} {
		if got, ok := impl.CountProfiles(c.columns, c.depth); got != c.want || !ok {
			t.Error("CountProfiles", c.columns, c.depth, got, ok, "not", c.want)
		}
	}
	for _, n := range append(edgeInts(), -1, 0, 7, 9) {
		for good := 1; good <= 8; good++ {
			if count, ok := impl.CountProfiles(n, good); (n < 1 || n > 8 || good > 6) && (count != 0 || ok) {
				t.Error("CountProfiles", n, good, count, ok)
			}
			if count, ok := impl.CountProfiles(good, n); (n < 1 || n > 6) && (count != 0 || ok) {
				t.Error("CountProfiles", good, n, count, ok)
			}
		}
		for _, other := range edgeInts() {
			noPanic(t, "CountProfiles", func() { impl.CountProfiles(n, other) })
		}
	}
}

func TestLeastAndGreatestProfiles(t *testing.T) {
	eachShape(func(columns, depth int) {
		profiles := profilesByHand(columns, depth)
		values := sectionOf(columns, depth, mixedValues(columns*depth, columns+depth))
		if len(profiles) <= 60 && columns <= 5 {
			eachDepths(columns, depth, func(depths []int) { checkFit(t, values, profiles, depths) })
		}
		for _, depths := range append(depthLists(columns, depth, 1), depthLists(columns, depth, 2)...) {
			checkFit(t, values, profiles, depths)
		}
	})
	deep := sectionOf(8, 6, make([]int, 48))
	for _, c := range []struct{ depths, least, greatest []int }{
		{[]int{6, 0, 0, 0, 0, 0, 0, 0}, []int{6, 5, 4, 3, 2, 1, 0, 0}, []int{1, 0, 0, 0, 0, 0, 0, 0}},
		{[]int{0, 0, 0, 0, 0, 0, 0, 6}, []int{0, 0, 1, 2, 3, 4, 5, 6}, []int{0, 0, 0, 0, 0, 0, 0, 1}},
		{[]int{0, 6, 6, 6, 6, 6, 6, 6}, []int{5, 6, 6, 6, 6, 6, 6, 6}, []int{0, 1, 2, 3, 4, 5, 6, 6}},
		{[]int{6, 6, 6, 6, 6, 6, 6, 0}, []int{6, 6, 6, 6, 6, 6, 6, 5}, []int{6, 6, 5, 4, 3, 2, 1, 0}},
		{[]int{6, 0, 6, 0, 6, 0, 6, 0}, []int{6, 5, 6, 5, 6, 5, 6, 5}, []int{1, 0, 1, 0, 1, 0, 1, 0}},
		{[]int{0, 1, 2, 3, 4, 5, 6, 5}, []int{0, 1, 2, 3, 4, 5, 6, 5}, []int{0, 1, 2, 3, 4, 5, 6, 5}},
		{[]int{2, 2, 0, 0, 5, 0, 0, 3}, []int{2, 2, 3, 4, 5, 4, 3, 3}, []int{2, 1, 0, 0, 1, 0, 0, 1}},
	} {
		p, ok := impl.LeastProfile(deep, c.depths)
		checkDepths(t, fmt.Sprint("least profile ", c.depths), p, ok, c.least)
		p, ok = impl.GreatestProfile(deep, c.depths)
		checkDepths(t, fmt.Sprint("greatest profile ", c.depths), p, ok, c.greatest)
	}
}

func TestBestProfilesAtTheirEdges(t *testing.T) {
	for _, c := range []struct {
		what   string
		values [][]int
		best   []int
		worth  int
	}{
		{"one block of waste", [][]int{{-1}}, []int{0}, 0},
		{"one block worth nothing", [][]int{{0}}, []int{0}, 0},
		{"one block of ore", [][]int{{1}}, []int{1}, 1},
		{"one block at the greatest value", [][]int{{1000000}}, []int{1}, 1000000},
		{"one block at the least value", [][]int{{-1000000}}, []int{0}, 0},
		{"one deep column whose ore pays", [][]int{{-1, -1, -1, -1, -1, 6}}, []int{6}, 1},
		{"one deep column whose ore just pays", [][]int{{-1, -1, -1, -1, -1, 5}}, []int{0}, 0},
		{"one deep column that is left on the way", [][]int{{2, -1, 3, -4, 4, 0}}, []int{3}, 4},
		{"the first column is not mined", [][]int{{-5}, {1}, {1}}, []int{0, 1, 1}, 2},
		{"the last column is not mined", [][]int{{1}, {1}, {-5}}, []int{1, 1, 0}, 2},
		{"a column between others is not mined", [][]int{{1, 0}, {-5, 9}, {1, 0}}, []int{1, 2, 1}, 6},
		{"a column between others that does not pay", [][]int{{1, 0}, {-5, 3}, {1, 0}}, []int{1, 0, 1}, 2},
		{"two pits apart", [][]int{{3}, {-1}, {-1}, {3}}, []int{1, 0, 0, 1}, 6},
		{"deep ore that pays for its neighbours", [][]int{{-1, 0}, {-1, 4}, {-1, 0}}, []int{1, 2, 1}, 1},
		{"deep ore that just pays for its neighbours", [][]int{{-1, 0}, {-1, 3}, {-1, 0}}, []int{0, 0, 0}, 0},
		{"deep ore at the end has one neighbour", [][]int{{-1, 3}, {-1, 0}, {-1, 0}}, []int{2, 1, 0}, 1},
		{"ore that only neighbours keep away", [][]int{{-9, 0}, {0, 9}, {0, 0}}, []int{0, 0, 0}, 0},
		{"nothing is worth mining", [][]int{{-1, -2, -3}, {-4, -5, -6}}, []int{0, 0}, 0},
		{"nothing is worth anything", [][]int{{0, 0, 0}, {0, 0, 0}}, []int{0, 0}, 0},
		{"zeros above ore", [][]int{{0, 1}, {0, 0}}, []int{2, 1}, 1},
		{"zeros below ore", [][]int{{1, 0}, {0, 0}}, []int{1, 0}, 1},
		{"two equal columns, both of which pay nothing", [][]int{{-1, 1}, {-1, 1}}, []int{0, 0}, 0},
		{"either side pays, and both together as much", [][]int{{0, 5}, {-3, 0}, {-2, 0}, {-3, 0}, {0, 5}}, []int{2, 1, 0, 1, 2}, 4},
		{"a deeper one that is worth the same", [][]int{{2, -1, 1}}, []int{1}, 2},
		{"all values at their greatest", sectionOf(8, 6, slices.Repeat([]int{1000000}, 48)), slices.Repeat([]int{6}, 8), 48000000},
		{"all values at their least", sectionOf(8, 6, slices.Repeat([]int{-1000000}, 48)), make([]int, 8), 0},
	} {
		checkBestProfile(t, c.values, c.best, c.worth)
	}
}

func TestBestBelowAtTheirEdges(t *testing.T) {
	values := [][]int{{-1, 3, 1}, {-2, 4, 2}, {-1, 3, 1}}
	for _, c := range []struct {
		most, best []int
		worth      int
	}{
		{[]int{0, 0, 0}, []int{0, 0, 0}, 0},
		{[]int{3, 3, 3}, []int{3, 3, 3}, 10},
		{[]int{2, 2, 2}, []int{2, 2, 2}, 6},
		{[]int{1, 1, 1}, []int{0, 0, 0}, 0},
		{[]int{3, 0, 3}, []int{0, 0, 0}, 0},
		{[]int{0, 3, 3}, []int{0, 0, 0}, 0},
		{[]int{3, 3, 0}, []int{0, 0, 0}, 0},
		{[]int{1, 3, 1}, []int{0, 0, 0}, 0},
		{[]int{1, 2, 3}, []int{1, 2, 3}, 4},
		{[]int{3, 1, 3}, []int{2, 1, 2}, 2},
	} {
		checkBestBelow(t, values, c.most, c.best, c.worth)
	}
}

func TestValuesBlocksAndTextsOfSections(t *testing.T) {
	eachShape(func(columns, depth int) {
		// Each value tells its own block.
		var values [][]int
		for x := range columns {
			values = append(values, nil)
			for z := range depth {
				values[x] = append(values[x], z*columns+x)
			}
		}
		l, ok := impl.SectionValues(values)
		checkList(t, "SectionValues", l, ok, validLists(columns * depth)[4])
		if depth <= 5 {
			g := impl.Grid{X: columns, Y: 1, Z: depth}
			for x, column := range values {
				blocks, ok := impl.ColumnBlocks(g, x, 0)
				checkList(t, "a column of a grid", blocks, ok, column)
			}
		}
		all, ok := impl.ProfileBlocks(values, slices.Repeat([]int{depth}, columns))
		checkList(t, "all blocks", all, ok, l)
		none, ok := impl.ProfileBlocks(values, make([]int, columns))
		checkList(t, "no blocks", none, ok, nil)
		for depths, sign := range map[int]string{0: ".", depth: "#"} {
			line := strings.Repeat(sign, columns) + "\n"
			if s, ok := impl.ProfileText(values, slices.Repeat([]int{depths}, columns)); s != strings.Repeat(line, depth) || !ok {
				t.Errorf("ProfileText %d %d %d: %q %v", columns, depth, depths, s, ok)
			}
		}
	})
	for _, c := range []struct {
		depth  int
		p      []int
		blocks []int
		text   string
	}{
		{1, []int{0}, nil, ".\n"},
		{1, []int{1}, []int{0}, "#\n"},
		{6, []int{4}, []int{0, 1, 2, 3}, "#\n#\n#\n#\n.\n.\n"},
		{1, []int{0, 1, 0, 0, 1, 1, 0, 1}, []int{1, 4, 5, 7}, ".#..##.#\n"},
		{3, []int{0, 1, 2, 3, 2}, []int{1, 2, 3, 4, 7, 8, 9, 13}, ".####\n..###\n...#.\n"},
		{2, []int{1, 0, 1}, []int{0, 2}, "#.#\n...\n"},
		{6, []int{5, 6, 5, 4, 3, 2, 1, 0}, []int{0, 1, 2, 3, 4, 5, 6, 8, 9, 10, 11, 12, 13, 16, 17, 18, 19, 20, 24, 25, 26, 27, 32, 33, 34, 41}, "#######.\n######..\n#####...\n####....\n###.....\n.#......\n"},
	} {
		values := sectionOf(len(c.p), c.depth, make([]int, len(c.p)*c.depth))
		blocks, ok := impl.ProfileBlocks(values, c.p)
		checkList(t, "blocks of "+c.text, blocks, ok, c.blocks)
		if s, ok := impl.ProfileText(values, c.p); s != c.text || !ok {
			t.Errorf("ProfileText %v: %q %v", c.p, s, ok)
		}
	}
}

// wrongSections have no columns or too many, columns of different depths, without values or with too many, or values out of range.
func wrongSections() [][][]int {
	l := [][][]int{
		nil, {}, {nil}, {{}}, {nil, nil}, {{}, {}}, {nil, {1}}, {{1}, nil}, {{1}, {}}, {{1}, {1, 2}}, {{1, 2}, {1}},
		make([][]int, 8), make([][]int, 9), make([][]int, 1000), {make([]int, 1000)}, {{1}, make([]int, 1000)},
	}
	for columns := 1; columns <= 10; columns++ {
		for depth := 1; depth <= 8; depth++ {
			values := sectionOf(columns, depth, make([]int, columns*depth))
			if columns > 8 || depth > 6 {
				l = append(l, values)
				continue
			}
			for _, c := range []int{0, columns / 2, columns - 1} {
				if columns > 1 {
					l = append(l, withArcs(values, c), withArcs(values, c, make([]int, depth-1)...), withArcs(values, c, make([]int, depth+1)...))
				}
				for _, level := range []int{0, depth - 1} {
					for _, wrong := range append([]int{-1000001}, outside(1000000)...) {
						if wrong < -1000000 || wrong > 1000000 {
							spoilt := copyArcs(values)
							spoilt[c][level] = wrong
							l = append(l, spoilt)
						}
					}
				}
			}
		}
	}
	return l
}

func TestWhatIsASection(t *testing.T) {
	eachShape(func(columns, depth int) {
		for _, values := range someSections(columns, depth, 3) {
			if !impl.IsSection(values) {
				t.Error("IsSection", values)
			}
		}
	})
	for _, values := range wrongSections() {
		if impl.IsSection(values) {
			t.Error("IsSection", values)
		}
	}
}

func TestWrongSectionsHaveNothing(t *testing.T) {
	for _, values := range wrongSections() {
		var first []int
		if len(values) > 0 {
			first = values[0]
		}
		for _, l := range [][]int{nil, make([]int, len(values)), slices.Repeat([]int{min(1, len(first))}, len(values)), make([]int, 8)} {
			if is, ok := impl.IsProfile(values, l); is || ok {
				t.Error("IsProfile", values, l, is, ok)
			}
			checkNothingOfProfile(t, values, l)
			checkNothingOfDepths(t, values, l)
		}
		if p, value, ok := impl.BestProfile(values); len(p) != 0 || value != 0 || ok {
			t.Error("BestProfile", values, p, value, ok)
		}
		if l, ok := impl.SectionValues(values); len(l) != 0 || ok {
			t.Error("SectionValues", values, l, ok)
		}
	}
}

// wrongDepths are too few or too many depths, and numbers that are no depths.
func wrongDepths(columns, depth int) [][]int {
	l := [][]int{nil, {}, make([]int, columns-1), make([]int, columns+1), make([]int, 2*columns), make([]int, 1000)}
	l = slices.DeleteFunc(l, func(depths []int) bool { return len(depths) == columns })
	for _, wrong := range outside(depth) {
		for _, c := range []int{0, columns / 2, columns - 1} {
			depths := slices.Repeat([]int{min(max(wrong, 0), depth)}, columns)
			depths[c] = wrong
			l = append(l, depths, slices.Repeat([]int{wrong}, columns))
		}
	}
	return l
}

func TestWrongDepthsAndProfiles(t *testing.T) {
	eachShape(func(columns, depth int) {
		for _, values := range someSections(columns, depth, 5)[:4] {
			for _, l := range wrongDepths(columns, depth) {
				checkNoProfile(t, values, l)
				checkNothingOfDepths(t, values, l)
			}
		}
	})
	for _, l := range [][]int{{0, 2, 0}, {2, 0, 0}, {0, 0, 2}, {2, 2, 0}, {0, 2, 2}, {2, 1, -1}, {0, 1, 3}} {
		checkNoProfile(t, [][]int{{1, 1}, {1, 1}, {1, 1}}, l)
	}
}

// The steps between numbers far outside every range overflow.
func TestProfilesFarOutsideEveryRange(t *testing.T) {
	values := [][]int{{1, 1}, {1, 1}}
	for _, a := range edgeInts() {
		for _, b := range edgeInts() {
			l := []int{a, b}
			if isProfileByHand(2, 2, l) {
				checkProfile(t, values, l)
				continue
			}
			checkNoProfile(t, values, l)
			if a < 0 || a > 2 || b < 0 || b > 2 {
				checkNothingOfDepths(t, values, l)
			}
		}
	}
}

// useSection calls all functions of chapter 10, and writes into everything that they return, so that shared memory shows.
func useSection(values [][]int, l []int, n int) {
	impl.IsSection(values)
	impl.IsProfile(values, l)
	impl.ProfileValue(values, l)
	best, _, _ := impl.BestProfile(values)
	below, _, _ := impl.BestBelow(values, l)
	least, _ := impl.LeastProfile(values, l)
	greatest, _ := impl.GreatestProfile(values, l)
	impl.CountProfiles(n, len(l))
	all, _ := impl.SectionValues(values)
	blocks, _ := impl.ProfileBlocks(values, l)
	impl.ProfileText(values, l)
	for _, got := range [][]int{best, below, least, greatest, all, blocks} {
		spoilList(got)
	}
}

// Promise 33: no function of chapter 10 panics, changes its arguments or what lies behind them.
func TestSectionArgumentsStay(t *testing.T) {
	all := wrongSections()
	eachShape(func(columns, depth int) { all = append(all, someSections(columns, depth, 7)[:6]...) })
	for _, given := range all {
		columns, depth := len(given), 0
		if columns > 0 {
			depth = len(given[0])
		}
		lists := [][]int{nil, {}, {math.MinInt}, {math.MaxInt}}
		if columns > 0 && columns < 20 {
			lists = append(lists, depthLists(columns, depth, columns)...)
			lists = append(lists, wrongDepths(columns, depth)[:8]...)
		}
		for k, depths := range lists {
			values, memory := roomyArcs(given)
			l, whole := roomy(depths)
			keptValues, keptList := memory(), slices.Clone(whole)
			noPanic(t, fmt.Sprint("chapter 10 ", given, depths), func() { useSection(values, l, k) })
			if !sameArcs(memory(), keptValues) || !slices.Equal(whole, keptList) {
				t.Fatal("an argument has changed", given, depths)
			}
		}
	}
}

// Promise 33: results are new memory.
func TestSectionResultsAreNew(t *testing.T) {
	for _, values := range [][][]int{{{1}}, {{1, -9}, {-2, 8}, {1, -9}}, sectionOf(8, 6, mixedValues(48, 2)), sectionOf(8, 6, make([]int, 48))} {
		depth := len(values[0])
		l := slices.Repeat([]int{depth}, len(values))
		l[0]--
		kept, keptList := copyArcs(values), slices.Clone(l)
		checkFresh(t, "BestProfile", func() []int { p, _, _ := impl.BestProfile(values); return p })
		checkFresh(t, "BestBelow", func() []int { p, _, _ := impl.BestBelow(values, l); return p })
		checkFresh(t, "LeastProfile", func() []int { p, _ := impl.LeastProfile(values, l); return p })
		checkFresh(t, "GreatestProfile", func() []int { p, _ := impl.GreatestProfile(values, l); return p })
		checkFresh(t, "SectionValues", func() []int { p, _ := impl.SectionValues(values); return p })
		checkFresh(t, "ProfileBlocks", func() []int { p, _ := impl.ProfileBlocks(values, l); return p })
		if !sameArcs(values, kept) || !slices.Equal(l, keptList) {
			t.Error("a result shares memory with an argument", values, l)
		}
	}
}
