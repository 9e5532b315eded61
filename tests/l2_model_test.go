package tests

import (
	"fmt"
	"math"
	"slices"
	"strconv"
	"strings"
	"testing"

	"loop.example/g00914/impl"
)

// numbersFrom gives numbers that look mixed and are the same in each run; every fourth one is the least or the greatest.
func numbersFrom(seed uint64) func(most int) int {
	return func(most int) int {
		seed = seed*6364136223846793005 + 1442695040888963407
		n := seed >> 33
		switch n % 8 {
		case 0:
			return 0
		case 1:
			return most
		}
		return int(n/8) % (most + 1)
	}
}

func mixedModel(g impl.Grid, seed int) impl.Model {
	next := numbersFrom(uint64(seed))
	m := impl.Model{Grid: g}
	for range g.X * g.Y * g.Z {
		m.Tonnes = append(m.Tonnes, next(10000))
		m.Grades = append(m.Grades, next(1000))
		m.Rocks = append(m.Rocks, next(4))
	}
	return m
}

func evenModel(g impl.Grid, tonnes, grade, rock int) impl.Model {
	n := g.X * g.Y * g.Z
	return impl.Model{Grid: g, Tonnes: slices.Repeat([]int{tonnes}, n), Grades: slices.Repeat([]int{grade}, n), Rocks: slices.Repeat([]int{rock}, n)}
}

// validModels has, for each grid, a mixed model and those with the least and the greatest numbers.
func validModels() []impl.Model {
	var models []impl.Model
	for k, g := range allGrids() {
		models = append(models, mixedModel(g, k), evenModel(g, 0, 0, 0), evenModel(g, 10000, 1000, 4), evenModel(g, 0, 1000, k%5), evenModel(g, k, 0, k%5))
	}
	return models
}

func copyOf(m impl.Model) impl.Model {
	m.Tonnes, m.Grades, m.Rocks = slices.Clone(m.Tonnes), slices.Clone(m.Grades), slices.Clone(m.Rocks)
	return m
}

func sameModel(a, b impl.Model) bool {
	return a.Grid == b.Grid && slices.Equal(a.Tonnes, b.Tonnes) && slices.Equal(a.Grades, b.Grades) && slices.Equal(a.Rocks, b.Rocks)
}

func isNoModel(m impl.Model) bool { return sameModel(m, impl.Model{}) }

// outside are the numbers at both sides of 0..most and far from it.
func outside(most int) []int {
	l := []int{-1, most + 1}
	for _, n := range edgeInts() {
		if n < 0 || n > most {
			l = append(l, n)
		}
	}
	return l
}

// modelsWith has the models in which one of the three lists of a model is another one.
func modelsWith(m impl.Model, change func([]int) []int) []impl.Model {
	a, b, c := copyOf(m), copyOf(m), copyOf(m)
	a.Tonnes, b.Grades, c.Rocks = change(a.Tonnes), change(b.Grades), change(c.Rocks)
	return []impl.Model{a, b, c}
}

// wrongModels are models with lists that are too short, too long or missing, with numbers out of range, and with wrong grids.
func wrongModels() []impl.Model {
	models := []impl.Model{{}, {Tonnes: []int{1}, Grades: []int{1}, Rocks: []int{1}}}
	for _, g := range []impl.Grid{{X: 1, Y: 1, Z: 1}, {X: 3, Y: 2, Z: 2}, {X: 8, Y: 5, Z: 3}} {
		m := mixedModel(g, 5)
		models = append(models, impl.Model{Grid: g})
		models = append(models, modelsWith(m, func(l []int) []int { return nil })...)
		models = append(models, modelsWith(m, func(l []int) []int { return []int{} })...)
		models = append(models, modelsWith(m, func(l []int) []int { return l[:len(l)-1] })...)
		models = append(models, modelsWith(m, func(l []int) []int { return append(l, 0) })...)
		models = append(models, modelsWith(m, func(l []int) []int { return make([]int, 2*len(l)) })...)
		models = append(models, modelsWith(m, func(l []int) []int { return make([]int, 1000) })...)
		for _, at := range []int{0, g.X*g.Y*g.Z - 1} {
			for _, n := range outside(10000) {
				models = append(models, modelsWith(m, func(l []int) []int { l[at] = n; return l })...)
			}
			grade, rock := copyOf(m), copyOf(m)
			grade.Grades[at], rock.Rocks[at] = 1001, 5
			models = append(models, grade, rock)
		}
		for _, wrong := range append(wrongGrids(), impl.Grid{X: g.X + 1, Y: g.Y, Z: g.Z}, impl.Grid{X: g.X, Y: g.Y, Z: g.Z + 1}) {
			moved := copyOf(m)
			moved.Grid = wrong
			models = append(models, moved)
		}
	}
	large := evenModel(impl.Grid{X: 8, Y: 6, Z: 5}, 1, 1, 1)
	return append(models, large, evenModel(impl.Grid{X: 9, Y: 1, Z: 1}, 1, 1, 1), evenModel(impl.Grid{X: 1, Y: 7, Z: 1}, 1, 1, 1), evenModel(impl.Grid{X: 1, Y: 1, Z: 6}, 1, 1, 1))
}

// validLists are lists of blocks below n.
func validLists(n int) [][]int {
	lists := [][]int{nil, {}, {0}, {n - 1}, nil, nil, nil}
	for i := range n {
		lists[4] = append(lists[4], i)
		if i%2 == 1 {
			lists[5] = append(lists[5], i)
		}
		if i%3 == 0 {
			lists[6] = append(lists[6], i)
		}
	}
	return lists
}

// wrongLists are lists that are not strictly increasing, or have something that is no block below n.
func wrongLists(n int) [][]int {
	lists := [][]int{{0, 0}, {n - 1, n - 1}, {1, 0}, {n - 1, 0}, {0, n}, {-1, 0}, {math.MinInt, 0}, {0, math.MaxInt}, {0, math.MinInt}, {math.MaxInt, math.MinInt}, {0, 1, 2, 1}, make([]int, 1000)}
	for _, i := range outside(n - 1) {
		lists = append(lists, []int{i})
	}
	return lists
}

// sumsByHand adds up over all blocks that are in a list, by the words of the document.
func sumsByHand(m impl.Model, blocks []int) (tonnes, metal int) {
	for i := range m.Tonnes {
		if slices.Contains(blocks, i) {
			tonnes += m.Tonnes[i]
			metal += m.Tonnes[i] * m.Grades[i]
		}
	}
	return tonnes, metal
}

func textByHand(m impl.Model) string {
	s := fmt.Sprintf("model %dx%dx%d\n", m.Grid.X, m.Grid.Y, m.Grid.Z)
	for i := range m.Tonnes {
		s += fmt.Sprintf("%d %d %d\n", m.Tonnes[i], m.Grades[i], m.Rocks[i])
	}
	return s
}

// everyBlock is the list of all blocks of a model.
func everyBlock(m impl.Model) []int { return validLists(len(m.Tonnes))[4] }

func TestModelExample(t *testing.T) {
	m := impl.Model{Grid: impl.Grid{X: 2, Y: 1, Z: 1}, Tonnes: []int{100, 300}, Grades: []int{10, 30}, Rocks: []int{0, 0}}
	for i, want := range []int{1000, 9000} {
		if n, ok := impl.MetalOf(m, i); n != want || !ok {
			t.Error("metal", i, n, ok)
		}
	}
	if a, b, ok := impl.MeanGrade(m, []int{0, 1}); a != 25 || b != 1 || !ok {
		t.Error("mean", a, b, ok)
	}
	want := "model 2x1x1\n100 10 0\n300 30 0\n"
	if s, ok := impl.ModelText(m); s != want || !ok {
		t.Errorf("text %q %v", s, ok)
	}
	if p, ok := impl.ParseModel(want); !sameModel(p, m) || !ok {
		t.Error("model of a text", p, ok)
	}
}

func TestModelLimits(t *testing.T) {
	if impl.MaxTonnes != 10000 || impl.MaxGrade != 1000 || impl.MaxRock != 4 {
		t.Error("limits", impl.MaxTonnes, impl.MaxGrade, impl.MaxRock)
	}
	for _, m := range validModels() {
		if !impl.IsModel(m) {
			t.Error("a valid model is refused", m)
		}
	}
	for _, m := range wrongModels() {
		if impl.IsModel(m) {
			t.Error("an invalid model is taken", m)
		}
	}
	g := impl.Grid{X: 2, Y: 1, Z: 1}
	for n := -2; n <= 10002; n++ {
		for k, most := range []int{10000, 1000, 4} {
			m := evenModel(g, 1, 1, 1)
			[][]int{m.Tonnes, m.Grades, m.Rocks}[k][1] = n
			if impl.IsModel(m) != (n >= 0 && n <= most) {
				t.Error("IsModel is wrong about", m)
			}
		}
	}
}

func TestMetal(t *testing.T) {
	for _, m := range validModels() {
		for i := range m.Tonnes {
			if n, ok := impl.MetalOf(m, i); n != m.Tonnes[i]*m.Grades[i] || !ok {
				t.Error("metal", m, i, n, ok)
			}
		}
	}
}

func TestSums(t *testing.T) {
	for _, m := range validModels() {
		for _, l := range validLists(len(m.Tonnes)) {
			wantTonnes, wantMetal := sumsByHand(m, l)
			if tonnes, metal, ok := impl.SumsOf(m, l); tonnes != wantTonnes || metal != wantMetal || !ok {
				t.Error("sums", m, l, tonnes, metal, ok)
			}
		}
	}
	m := evenModel(impl.Grid{X: 8, Y: 5, Z: 3}, 10000, 1000, 0)
	if tonnes, metal, ok := impl.SumsOf(m, everyBlock(m)); tonnes != 1200000 || metal != 1200000000 || !ok {
		t.Error("greatest sums", tonnes, metal, ok)
	}
}

// checkMean demands the fraction of two sums in lowest terms, or nothing if there are no tonnes.
func checkMean(t *testing.T, m impl.Model, l []int) {
	t.Helper()
	tonnes, metal := sumsByHand(m, l)
	a, b, ok := impl.MeanGrade(m, l)
	if tonnes == 0 {
		if a != 0 || b != 0 || ok {
			t.Error("a mean without tonnes", m, l, a, b, ok)
		}
		return
	}
	if !ok || b < 1 || a < 0 || a*tonnes != b*metal {
		t.Error("mean", m, l, a, b, ok)
	}
	for d := 2; d <= b; d++ {
		if a%d == 0 && b%d == 0 {
			t.Error("the mean is not in lowest terms", m, l, a, b)
			return
		}
	}
}

func TestMeanGrades(t *testing.T) {
	for k, g := range allGrids() {
		m := mixedModel(g, k)
		for _, l := range validLists(len(m.Tonnes)) {
			checkMean(t, m, l)
			checkMean(t, evenModel(g, 0, k, 0), l)
			checkMean(t, evenModel(g, k+1, k, 0), l)
		}
	}
}

func TestMeanGradeAtItsEdges(t *testing.T) {
	m := impl.Model{Grid: impl.Grid{X: 4, Y: 1, Z: 1}, Tonnes: []int{0, 10000, 3, 4}, Grades: []int{1000, 0, 1, 2}, Rocks: []int{0, 1, 2, 3}}
	for _, c := range []struct {
		blocks []int
		a, b   int
		ok     bool
	}{
		{nil, 0, 0, false}, {[]int{}, 0, 0, false}, {[]int{0}, 0, 0, false},
		{[]int{1}, 0, 1, true}, {[]int{0, 1}, 0, 1, true}, {[]int{2}, 1, 1, true}, {[]int{2, 3}, 11, 7, true}, {[]int{0, 2, 3}, 11, 7, true}, {[]int{1, 2, 3}, 11, 10007, true},
	} {
		if a, b, ok := impl.MeanGrade(m, c.blocks); a != c.a || b != c.b || ok != c.ok {
			t.Error("mean", c, a, b, ok)
		}
	}
}

// Promise 2: levels and rocks add up to all tonnes.
func TestLevelsAndRocksAddUp(t *testing.T) {
	for _, m := range validModels() {
		allTonnes, allMetal := sumsByHand(m, everyBlock(m))
		tonnes, metal, ok := impl.SumsOf(m, everyBlock(m))
		if tonnes != allTonnes || metal != allMetal || !ok {
			t.Error("sums of all blocks", m, tonnes, metal, ok)
		}
		levels, ok := impl.LevelSums(m)
		if !ok || len(levels) != m.Grid.Z {
			t.Fatal("levels", m, levels, ok)
		}
		for _, row := range levels {
			if len(row) != 2 {
				t.Fatal("a level", m, row)
			}
			tonnes -= row[0]
			metal -= row[1]
		}
		if tonnes != 0 || metal != 0 {
			t.Error("levels do not add up", m, levels)
		}
		rocks, ok := impl.RockTonnes(m)
		if !ok || len(rocks) != 5 {
			t.Fatal("rocks", m, rocks, ok)
		}
		sum := 0
		for _, n := range rocks {
			sum += n
		}
		if sum != allTonnes {
			t.Error("rocks do not add up", m, rocks)
		}
	}
}

func TestLevelsOneByOne(t *testing.T) {
	for _, m := range validModels() {
		levels, ok := impl.LevelSums(m)
		if !ok || len(levels) != m.Grid.Z {
			t.Fatal("levels", m, levels, ok)
		}
		spots := spotsOf(m.Grid)
		for z, row := range levels {
			tonnes, metal := sumsByHand(m, spotsWhere(spots, func(s spot) bool { return s.z == z }))
			if !slices.Equal(row, []int{tonnes, metal}) {
				t.Error("level", m, z, row)
			}
		}
	}
}

func TestRocksOneByOne(t *testing.T) {
	for _, m := range validModels() {
		want := make([]int, 5)
		for i, rock := range m.Rocks {
			want[rock] += m.Tonnes[i]
		}
		if rocks, ok := impl.RockTonnes(m); !slices.Equal(rocks, want) || !ok {
			t.Error("rocks", m, rocks, ok)
		}
	}
}

func TestAboveGrades(t *testing.T) {
	m := mixedModel(impl.Grid{X: 8, Y: 5, Z: 3}, 9)
	for grade := -3; grade <= 1004; grade++ {
		l, ok := impl.AboveGrade(m, grade)
		if grade < 0 || grade > 1001 {
			if len(l) != 0 || ok {
				t.Error("blocks above a grade out of range", grade, l, ok)
			}
			continue
		}
		var want []int
		for i := range m.Grades {
			if m.Grades[i] >= grade {
				want = append(want, i)
			}
		}
		checkList(t, fmt.Sprint("blocks above ", grade), l, ok, want)
	}
}

func TestAboveGradeAtItsEdges(t *testing.T) {
	for _, m := range validModels() {
		l, ok := impl.AboveGrade(m, 0)
		checkList(t, "all blocks", l, ok, everyBlock(m))
		l, ok = impl.AboveGrade(m, 1001)
		checkList(t, "no blocks", l, ok, nil)
		for _, n := range outside(1001) {
			if l, ok := impl.AboveGrade(m, n); len(l) != 0 || ok {
				t.Error("blocks above a grade out of range", n, l, ok)
			}
		}
	}
}

func TestRichestBlocks(t *testing.T) {
	for _, m := range validModels() {
		want := 0
		for i := len(m.Tonnes) - 1; i >= 0; i-- {
			if m.Tonnes[i]*m.Grades[i] >= m.Tonnes[want]*m.Grades[want] {
				want = i
			}
		}
		if i, ok := impl.RichestBlock(m); i != want || !ok {
			t.Error("richest", m, i, ok)
		}
	}
	g := impl.Grid{X: 4, Y: 1, Z: 1}
	for _, c := range []struct {
		tonnes, grades []int
		want           int
	}{
		{[]int{0, 0, 0, 0}, []int{1000, 1000, 1000, 1000}, 0}, {[]int{9, 9, 9, 9}, []int{0, 0, 0, 0}, 0},
		{[]int{0, 2, 3, 6}, []int{9, 3, 2, 1}, 1}, {[]int{1, 2, 3, 4}, []int{1, 1, 1, 1}, 3}, {[]int{10000, 1, 0, 10}, []int{0, 1, 1000, 1}, 3},
	} {
		m := impl.Model{Grid: g, Tonnes: c.tonnes, Grades: c.grades, Rocks: make([]int, 4)}
		if i, ok := impl.RichestBlock(m); i != c.want || !ok {
			t.Error("richest", c, i, ok)
		}
	}
}

func TestEmptiedBlocks(t *testing.T) {
	for _, m := range validModels() {
		for _, l := range validLists(len(m.Tonnes)) {
			want := copyOf(m)
			for _, i := range l {
				want.Tonnes[i] = 0
			}
			got, ok := impl.EmptyBlocks(m, l)
			if !sameModel(got, want) || !ok {
				t.Error("emptied", m, l, got, ok)
			}
			if tonnes, metal, ok := impl.SumsOf(got, l); tonnes != 0 || metal != 0 || !ok {
				t.Error("emptied blocks have something", m, l, tonnes, metal, ok)
			}
		}
	}
}

func TestSetBlocks(t *testing.T) {
	for _, m := range validModels() {
		for _, i := range []int{0, len(m.Tonnes) / 2, len(m.Tonnes) - 1} {
			for _, c := range [][3]int{{0, 0, 0}, {10000, 1000, 4}, {1, 2, 3}, {0, 1000, 4}, {m.Tonnes[i], m.Grades[i], m.Rocks[i]}} {
				want := copyOf(m)
				want.Tonnes[i], want.Grades[i], want.Rocks[i] = c[0], c[1], c[2]
				if got, ok := impl.SetBlock(m, i, c[0], c[1], c[2]); !sameModel(got, want) || !ok {
					t.Error("changed", m, i, c, got, ok)
				}
			}
		}
	}
}

func TestChangesThatAreNotValid(t *testing.T) {
	for _, m := range []impl.Model{mixedModel(impl.Grid{X: 1, Y: 1, Z: 1}, 1), mixedModel(impl.Grid{X: 3, Y: 2, Z: 2}, 2), mixedModel(impl.Grid{X: 8, Y: 5, Z: 3}, 3)} {
		for i := range m.Tonnes {
			for k, most := range []int{10000, 1000, 4} {
				for _, n := range outside(most) {
					c := [3]int{1, 1, 1}
					c[k] = n
					if got, ok := impl.SetBlock(m, i, c[0], c[1], c[2]); !isNoModel(got) || ok {
						t.Error("a wrong change is made", i, c, got, ok)
					}
				}
			}
		}
		for _, i := range outside(len(m.Tonnes) - 1) {
			if got, ok := impl.SetBlock(m, i, 1, 1, 1); !isNoModel(got) || ok {
				t.Error("a block that does not exist is changed", i, got, ok)
			}
		}
	}
}

// A change does not make a model valid that was not.
func TestNoChangeMendsAModel(t *testing.T) {
	m := evenModel(impl.Grid{X: 2, Y: 1, Z: 1}, 1, 1, 1)
	m.Tonnes[1] = 10001
	if got, ok := impl.SetBlock(m, 1, 1, 1, 1); !isNoModel(got) || ok {
		t.Error("set", got, ok)
	}
	if got, ok := impl.EmptyBlocks(m, []int{1}); !isNoModel(got) || ok {
		t.Error("emptied", got, ok)
	}
}

// Promise 2: texts are read back.
func TestModelTextsAreReadBack(t *testing.T) {
	for _, m := range validModels() {
		s, ok := impl.ModelText(m)
		if s != textByHand(m) || !ok {
			t.Errorf("text of %v: %q %v", m, s, ok)
		}
		back, ok := impl.ParseModel(s)
		if !sameModel(back, m) || !ok {
			t.Errorf("model of %q: %v %v", s, back, ok)
		}
	}
}

// wrongModelTexts are texts that no model has.
func wrongModelTexts() []string {
	good := "model 2x1x1\n100 10 0\n300 30 0\n"
	texts := []string{
		"", "\n", " ", "model", "model\n", "model \n", "model 1x1x1", "model 1x1x1\n", "model 1x1x1\n\n", "model\n1x1x1\n0 0 0\n", "1x1x1\n0 0 0\n", "0 0 0\n", "model 0 0 0\n", "model\n0 0 0\n",
		"model 1x1x1\n0 0 0", "model 1x1x1\n0 0\n", "model 1x1x1\n0 0 0 0\n", "model 1x1x1\n0 0 0\n\n", "model 1x1x1\n0 0 0\n0 0 0\n", "\nmodel 1x1x1\n0 0 0\n", "model 1x1x1\n\n0 0 0\n",
		" model 1x1x1\n0 0 0\n", "model  1x1x1\n0 0 0\n", "model 1x1x1 \n0 0 0\n", "model 1x1x1\n 0 0 0\n", "model 1x1x1\n0  0 0\n", "model 1x1x1\n0 0 0 \n", "model 1x1x1\n0 0 0\n ", "model 1x1x1\n0\n0\n0\n", "model 1x1x1 0 0 0\n", "model 1x1x1 0 0 0",
		"model\t1x1x1\n0 0 0\n", "model 1x1x1\n0\t0\t0\n", "model 1x1x1\r\n0 0 0\r\n", "model 1x1x1\r0 0 0\r", "model 1x1x1\v0 0 0\n", "model\u00a01x1x1\n0 0 0\n", "model 1x1x1\u20280 0 0\n", "model 1x1x1\n0\u30000 0\n", "model 1x1x1\n0 0 0\x00", "model 1x1x1\n0 0 0\n\x00", "\ufeffmodel 1x1x1\n0 0 0\n",
		"Model 1x1x1\n0 0 0\n", "MODEL 1x1x1\n0 0 0\n", "models 1x1x1\n0 0 0\n", "mode 1x1x1\n0 0 0\n", "grid 1x1x1\n0 0 0\n", "model1x1x1\n0 0 0\n", "model model 1x1x1\n0 0 0\n",
		"model 1X1X1\n0 0 0\n", "model 1 x 1 x 1\n0 0 0\n", "model 1,1,1\n0 0 0\n", "model 1 1 1\n0 0 0\n", "model 1x1\n0 0 0\n", "model 1x1x1x1\n0 0 0\n", "model x1x1x1\n0 0 0\n", "model 1x1x1x\n0 0 0\n", "model xx\n0 0 0\n", "model x\n0 0 0\n", "model 1\n0 0 0\n", "model 1xx1\n0 0 0\n",
		"model 01x1x1\n0 0 0\n", "model +1x1x1\n0 0 0\n", "model 1x1x01\n0 0 0\n", "model -1x-1x1\n0 0 0\n", "model 0x1x1\n", "model 0x0x0\n", "model 9x1x1\n" + strings.Repeat("0 0 0\n", 9), "model 1x7x1\n" + strings.Repeat("0 0 0\n", 7), "model 1x1x6\n" + strings.Repeat("0 0 0\n", 6), "model 8x6x3\n" + strings.Repeat("0 0 0\n", 144), "model 8x6x5\n" + strings.Repeat("0 0 0\n", 240),
		"model 4294967296x4294967296x1\n", "model 9223372036854775807x1x1\n0 0 0\n", "model 18446744073709551617x1x1\n0 0 0\n", "model -9223372036854775808x2x1\n", "model 0x1x1\n0 0 0\n", "model 2x1x1\n0 0 0\n", "model 1x2x1\n0 0 0\n", "model 1x1x2\n0 0 0\n",
		"model \xef\xbc\x91x1x1\n0 0 0\n", "model 1x1x1\n\xff 0 0\n", "model 1x1x1\n\u0660 0 0\n", "\xff", good + good, good + "0", good + " ", good[1:], good[:len(good)-1], "model 2x1x1\n100 10 0 300 30 0\n", "model 2x1x1\n100\n10 0 300 30 0\n", "100 10 0\nmodel 2x1x1\n300 30 0\n",
		strings.Repeat("model ", 10000), "model 1x1x1\n" + strings.Repeat("0", 100000) + " 0 0\n", "model 1x1x1\n" + strings.Repeat("9", 100000) + " 0 0\n", "model " + strings.Repeat("1x", 100000) + "1\n0 0 0\n", "model 1x1x1\n" + strings.Repeat("0 0 0\n", 20000), strings.Repeat(" ", 100000),
	}
	// Three times these sizes wrap around to 1 and to 2, as if a third of a block had to be read.
	texts = append(texts, "model -6148914691236517205x1x1\n0\n", "model 6148914691236517206x1x1\n0 0\n", "model 1x1x-6148914691236517205\n0\n")
	for k, most := range []int{10000, 1000, 4} {
		words := []string{"-1", strconv.Itoa(most + 1), strconv.Itoa(math.MinInt), strconv.Itoa(math.MaxInt), "9223372036854775808", "18446744073709551616", "18446744073709551617", "00", "01", "-0", "+0", "+1", "0x1", "1_0", "1e1", "1.0", ".", "a", "-", "+", "", "0b1", "0o1", "1,", "' '"}
		for _, word := range words {
			numbers := []string{"1", "1", "1"}
			numbers[k] = word
			texts = append(texts, "model 1x1x1\n"+strings.Join(numbers, " ")+"\n")
		}
	}
	return texts
}

func TestTextsThatNoModelHas(t *testing.T) {
	for _, s := range wrongModelTexts() {
		if m, ok := impl.ParseModel(s); !isNoModel(m) || ok {
			t.Errorf("model of %.40q: %v %v", s, m, ok)
		}
	}
}

// checkText demands that a text is taken only if it is the very text of the model that is read from it.
func checkText(t *testing.T, s string) bool {
	t.Helper()
	m, ok := impl.ParseModel(s)
	if !ok && !isNoModel(m) {
		t.Errorf("a refused text gives something: %q %v", s, m)
	}
	if ok && (!impl.IsModel(m) || textByHand(m) != s) {
		t.Errorf("model of %q: %v", s, m)
	}
	return ok
}

func TestTextsWithOneByteChanged(t *testing.T) {
	m := impl.Model{Grid: impl.Grid{X: 2, Y: 1, Z: 2}, Tonnes: []int{10000, 0, 12, 999}, Grades: []int{1000, 0, 7, 10}, Rocks: []int{4, 0, 1, 3}}
	good := textByHand(m)
	taken := 0
	for at := range len(good) + 1 {
		for b := range 256 {
			checkText(t, good[:at]+string([]byte{byte(b)})+good[at:])
			if at < len(good) && checkText(t, good[:at]+string([]byte{byte(b)})+good[at+1:]) {
				taken++
			}
		}
		checkText(t, good[:at])
		checkText(t, good[at:])
		if at < len(good) {
			checkText(t, good[:at]+good[at+1:])
		}
	}
	// What is no digit, and the three digits of the grid, can only be themselves, as another grid has another number of blocks.
	want := len(good) - countDigits(good) + 3
	for i := range m.Tonnes {
		want += spellings(m.Tonnes[i], 10000) + spellings(m.Grades[i], 1000) + spellings(m.Rocks[i], 4)
	}
	if taken != want {
		t.Error("texts that differ in at most one byte:", taken, "are taken, not", want)
	}
}

func countDigits(s string) int {
	n := 0
	for _, b := range []byte(s) {
		if b >= '0' && b <= '9' {
			n++
		}
	}
	return n
}

// spellings counts the ways to write a digit into the place of one of a number, so that it is one in 0..most, as it is written.
func spellings(n, most int) int {
	count := 0
	word := strconv.Itoa(n)
	for at := range word {
		for digit := '0'; digit <= '9'; digit++ {
			other := word[:at] + string(digit) + word[at+1:]
			if k, _ := strconv.Atoi(other); k <= most && strconv.Itoa(k) == other {
				count++
			}
		}
	}
	return count
}

// checkNothing demands the zero values from all functions that need a model.
func checkNothing(t *testing.T, m impl.Model, i int, blocks []int) {
	t.Helper()
	if tonnes, metal, ok := impl.SumsOf(m, blocks); tonnes != 0 || metal != 0 || ok {
		t.Error("sums", m, blocks, tonnes, metal, ok)
	}
	if a, b, ok := impl.MeanGrade(m, blocks); a != 0 || b != 0 || ok {
		t.Error("mean", m, blocks, a, b, ok)
	}
	if got, ok := impl.EmptyBlocks(m, blocks); !isNoModel(got) || ok {
		t.Error("emptied", m, blocks, got, ok)
	}
	if n, ok := impl.MetalOf(m, i); n != 0 || ok {
		t.Error("metal", m, i, n, ok)
	}
	if got, ok := impl.SetBlock(m, i, 1, 1, 1); !isNoModel(got) || ok {
		t.Error("changed", m, i, got, ok)
	}
}

func TestWrongModelsGiveNothing(t *testing.T) {
	for _, m := range wrongModels() {
		checkNothing(t, m, 0, nil)
		checkNothing(t, m, 0, []int{0})
		if l, ok := impl.LevelSums(m); len(l) != 0 || ok {
			t.Error("levels", m, l, ok)
		}
		if l, ok := impl.RockTonnes(m); len(l) != 0 || ok {
			t.Error("rocks", m, l, ok)
		}
		if l, ok := impl.AboveGrade(m, 0); len(l) != 0 || ok {
			t.Error("blocks above a grade", m, l, ok)
		}
		if i, ok := impl.RichestBlock(m); i != 0 || ok {
			t.Error("richest", m, i, ok)
		}
		if s, ok := impl.ModelText(m); s != "" || ok {
			t.Error("text", m, s, ok)
		}
	}
}

func TestWrongBlocksAndListsGiveNothing(t *testing.T) {
	for k, g := range allGrids() {
		m := evenModel(g, 1+k, 1+k, k%5)
		n := len(m.Tonnes)
		for _, i := range outside(n - 1) {
			for _, l := range wrongLists(n) {
				checkNothing(t, m, i, l)
			}
		}
	}
}

// Promise 33: no argument makes a function of chapter 2 panic.
func TestModelsNeverPanic(t *testing.T) {
	models := append(wrongModels(), mixedModel(impl.Grid{X: 1, Y: 1, Z: 1}, 1), mixedModel(impl.Grid{X: 3, Y: 2, Z: 2}, 2), mixedModel(impl.Grid{X: 8, Y: 5, Z: 3}, 3))
	for _, m := range models {
		noPanic(t, fmt.Sprint("a function of the model ", m), func() {
			impl.IsModel(m)
			impl.LevelSums(m)
			impl.RockTonnes(m)
			impl.RichestBlock(m)
			impl.ModelText(m)
		})
		for _, n := range edgeInts() {
			noPanic(t, fmt.Sprint("a function of the model and the number ", m, n), func() {
				impl.MetalOf(m, n)
				impl.AboveGrade(m, n)
				impl.SetBlock(m, n, 1, 1, 1)
				impl.SetBlock(m, 0, n, 1, 1)
				impl.SetBlock(m, 0, 1, n, 1)
				impl.SetBlock(m, 0, 1, 1, n)
				impl.SetBlock(m, n, n, n, n)
			})
		}
		for _, l := range append(wrongLists(len(m.Tonnes)), validLists(12)...) {
			noPanic(t, fmt.Sprint("a function of the model and the list ", m, l), func() {
				impl.SumsOf(m, l)
				impl.MeanGrade(m, l)
				impl.EmptyBlocks(m, l)
			})
		}
	}
	for _, s := range append(wrongModelTexts(), wrongNames()...) {
		noPanic(t, fmt.Sprintf("ParseModel %.40q", s), func() { impl.ParseModel(s) })
	}
}

// roomy gives a list with room behind its length, and the whole memory, in which the room is marked.
func roomy(l []int) (list, whole []int) {
	whole = append(slices.Clone(l), -99, -98, -97)
	return whole[:len(l)], whole
}

// Promise 33: no function of chapter 2 changes its arguments or what lies behind them.
func TestModelArgumentsStay(t *testing.T) {
	for _, given := range append(validModels()[:40], wrongModels()...) {
		lists := append(validLists(max(1, len(given.Tonnes))), wrongLists(len(given.Tonnes))...)
		for _, blocks := range lists {
			m := given
			var memory, kept [4][]int
			m.Tonnes, memory[0] = roomy(given.Tonnes)
			m.Grades, memory[1] = roomy(given.Grades)
			m.Rocks, memory[2] = roomy(given.Rocks)
			l, whole := roomy(blocks)
			memory[3] = whole
			for k := range memory {
				kept[k] = slices.Clone(memory[k])
			}
			spoilModel(m, l)
			for k := range memory {
				if !slices.Equal(memory[k], kept[k]) {
					t.Fatal("an argument is changed", given, blocks, k, memory[k])
				}
			}
		}
	}
}

// spoilModel calls all functions and writes into everything that they return, so that shared memory shows.
func spoilModel(m impl.Model, l []int) {
	impl.IsModel(m)
	impl.MetalOf(m, 0)
	impl.SumsOf(m, l)
	impl.MeanGrade(m, l)
	impl.RichestBlock(m)
	impl.ModelText(m)
	levels, _ := impl.LevelSums(m)
	for _, row := range levels {
		spoilList(row)
	}
	rocks, _ := impl.RockTonnes(m)
	above, _ := impl.AboveGrade(m, 0)
	emptied, _ := impl.EmptyBlocks(m, l)
	changed, _ := impl.SetBlock(m, 0, 1, 1, 1)
	for _, list := range [][]int{rocks, above, emptied.Tonnes, emptied.Grades, emptied.Rocks, changed.Tonnes, changed.Grades, changed.Rocks} {
		spoilList(list)
	}
}

func spoilList(l []int) {
	whole := l[:cap(l)]
	for k := range whole {
		whole[k] = -7
	}
}

// Promise 33: results are new memory, and no two lists of one result share it.
func TestModelResultsAreNew(t *testing.T) {
	for _, m := range []impl.Model{evenModel(impl.Grid{X: 1, Y: 1, Z: 1}, 4, 4, 4), evenModel(impl.Grid{X: 3, Y: 2, Z: 2}, 3, 3, 3), mixedModel(impl.Grid{X: 8, Y: 5, Z: 3}, 8)} {
		checkFresh(t, "RockTonnes", func() []int { l, _ := impl.RockTonnes(m); return l })
		checkFresh(t, "AboveGrade", func() []int { l, _ := impl.AboveGrade(m, 1); return l })
		checkFresh(t, "LevelSums", func() []int { l, _ := impl.LevelSums(m); return l[0] })
		emptied, _ := impl.EmptyBlocks(m, nil)
		changed, _ := impl.SetBlock(m, 0, m.Tonnes[0], m.Grades[0], m.Rocks[0])
		parsed, _ := impl.ParseModel(textByHand(m))
		kept := copyOf(m)
		for what, got := range map[string]impl.Model{"EmptyBlocks": emptied, "SetBlock": changed, "ParseModel": parsed} {
			checkApart(t, what, [][]int{got.Tonnes, got.Grades, got.Rocks}, [][]int{kept.Tonnes, kept.Grades, kept.Rocks})
			if !sameModel(m, kept) {
				t.Fatalf("%s: the result shares memory with the model", what)
			}
		}
		levels, _ := impl.LevelSums(m)
		again, _ := impl.LevelSums(m)
		checkApart(t, "LevelSums", levels, again)
	}
}

// checkApart spoils the lists one by one, with the memory behind their lengths, and demands that those not yet spoilt stay as wanted.
func checkApart(t *testing.T, what string, lists, want [][]int) {
	t.Helper()
	for k := range lists {
		if !slices.Equal(lists[k], want[k]) {
			t.Errorf("%s: list %d is %v, not %v", what, k, lists[k], want[k])
		}
		spoilList(lists[k])
	}
}
