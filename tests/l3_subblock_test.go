package tests

import (
	"fmt"
	"math"
	"slices"
	"testing"

	"loop.example/g00914/impl"
)

func piece(tonnes, metal, rock int) impl.Piece {
	return impl.Piece{Tonnes: tonnes, Metal: metal, Rock: rock}
}

// mixedPieces gives n pieces; few different tonnes and grades, so that many are equal, if they are to be alike.
func mixedPieces(n, seed int, alike bool) []impl.Piece {
	next := numbersFrom(uint64(seed))
	var l []impl.Piece
	for range n {
		tonnes := next(10000)
		metal := next(1000 * tonnes)
		if alike {
			tonnes = next(3)
			metal = tonnes * next(2)
		}
		l = append(l, piece(tonnes, metal, next(4)))
	}
	return l
}

// validPieces are pieces at the limits, small ones, and mixed ones.
func validPieces() []impl.Piece {
	l := []impl.Piece{{}, piece(0, 0, 4), piece(1, 0, 0), piece(1, 1000, 1), piece(10000, 0, 2), piece(10000, 10000000, 4), piece(10000, 9999999, 4), piece(10, 35, 2), piece(9999, 1, 3)}
	for tonnes := range 12 {
		l = append(l, piece(tonnes, 0, tonnes%5), piece(tonnes, 1000*tonnes, tonnes%5), piece(tonnes, 7*tonnes/2, tonnes%5), piece(tonnes, tonnes, tonnes%5))
	}
	return append(l, append(mixedPieces(20, 3, false), mixedPieces(20, 4, true)...)...)
}

// wrongPieces are pieces of which one number is out of its range, and pieces whose greatest metal wraps around.
func wrongPieces() []impl.Piece {
	l := []impl.Piece{piece(0, 1, 0), piece(1, 1001, 0), piece(10, 10001, 4), piece(10000, 10000001, 0), piece(-1, 0, 0), piece(-1, -1000, 0), piece(-1, -1, 0), piece(10001, 0, 0), piece(1<<61, 0, 0), piece(1<<62, 1, 1), piece(math.MaxInt, math.MaxInt, math.MaxInt), piece(math.MinInt, math.MinInt, math.MinInt)}
	for _, n := range outside(10000) {
		l = append(l, piece(n, 0, 0), piece(n, n, 0), piece(n, 0, n))
	}
	for _, n := range outside(10000000) {
		l = append(l, piece(10000, n, 0), piece(0, n, 0))
	}
	for _, n := range outside(4) {
		l = append(l, piece(1, 1, n), piece(0, 0, n), piece(10000, 10000000, n))
	}
	return l
}

// validWeights are weights at their limits, with equal remainders, with zeros among them, and mixed ones.
func validWeights() [][]int {
	lists := [][]int{{1}, {100}, {1, 2}, {2, 1}, {1, 1}, {1, 1, 1}, {100, 100, 100}, {0, 1}, {1, 0}, {0, 0, 100, 0}, {1, 0, 1, 0, 1}, {3, 3, 1, 3, 3}, {1, 100}, {100, 1, 1, 1}, slices.Repeat([]int{1}, 7), slices.Repeat([]int{1}, 20), slices.Repeat([]int{100}, 20)}
	for seed := range 25 {
		next := numbersFrom(uint64(seed))
		var l []int
		for range 1 + seed%20 {
			l = append(l, next(100))
		}
		l[seed%len(l)] = 1 + next(99)
		lists = append(lists, l)
	}
	return lists
}

// wrongWeights are lists that are too short or too long, all 0, or have a number out of range.
func wrongWeights() [][]int {
	lists := [][]int{nil, {}, {0}, {0, 0}, make([]int, 20), make([]int, 21), slices.Repeat([]int{1}, 21), slices.Repeat([]int{1}, 1000), {101}, {1, 101}, {101, 1}, {-1}, {-1, 1}, {-1, 2}, {1, -1}, {50, -50}, {math.MinInt, math.MinInt}, {math.MaxInt, math.MaxInt, 2}, {math.MaxInt, math.MinInt, 1}}
	for _, n := range outside(100) {
		lists = append(lists, []int{n}, []int{1, n}, []int{n, 1, 1})
	}
	return lists
}

// wrongPieceLists are lists that are too short or too long, or have a wrong piece among right ones.
func wrongPieceLists() [][]impl.Piece {
	lists := [][]impl.Piece{nil, {}, make([]impl.Piece, 21), make([]impl.Piece, 1000), slices.Repeat([]impl.Piece{piece(1, 1, 1)}, 21)}
	for _, p := range wrongPieces() {
		lists = append(lists, []impl.Piece{p}, []impl.Piece{piece(1, 1, 1), p}, []impl.Piece{p, piece(1, 1, 1), piece(2, 1, 1)})
	}
	// The sums of these are those of pieces.
	return append(lists, []impl.Piece{piece(-1, 0, 0), piece(2, 0, 0)}, []impl.Piece{piece(1, -1, 0), piece(1, 1, 0)}, []impl.Piece{piece(1, 1001, 0), piece(1, 0, 0)}, []impl.Piece{piece(math.MaxInt, 0, 0), piece(math.MaxInt, 0, 0), piece(2, 0, 0)})
}

// sharesByHand gives out what remains one by one: each time to the first of those with the greatest remainder that have none yet.
func sharesByHand(number int, weights []int) []int {
	whole := 0
	for _, w := range weights {
		whole += w
	}
	shares, remainders := make([]int, len(weights)), make([]int, len(weights))
	left := number
	for i, w := range weights {
		shares[i], remainders[i] = number*w/whole, number*w%whole
		left -= shares[i]
	}
	for ; left > 0; left-- {
		greatest := 0
		for i := range remainders {
			if remainders[i] > remainders[greatest] {
				greatest = i
			}
		}
		shares[greatest]++
		remainders[greatest] = -1
	}
	return shares
}

func splitByHand(p impl.Piece, weights []int) []impl.Piece {
	parts := make([]impl.Piece, len(weights))
	tonnes := sharesByHand(p.Tonnes, weights)
	for i := range parts {
		parts[i] = piece(tonnes[i], 0, p.Rock)
	}
	if p.Tonnes > 0 {
		for i, n := range sharesByHand(p.Metal, tonnes) {
			parts[i].Metal = n
		}
	}
	return parts
}

func pieceSums(l []impl.Piece) (tonnes, metal int) {
	for _, p := range l {
		tonnes += p.Tonnes
		metal += p.Metal
	}
	return tonnes, metal
}

// joinByHand counts the tonnes of each rock anew for each rock.
func joinByHand(l []impl.Piece) (impl.Piece, bool) {
	tonnes, metal := pieceSums(l)
	if tonnes > 10000 {
		return impl.Piece{}, false
	}
	main, most := 0, -1
	for rock := range 5 {
		own := 0
		for _, p := range l {
			if p.Rock == rock {
				own += p.Tonnes
			}
		}
		if own > most {
			main, most = rock, own
		}
	}
	return piece(tonnes, metal, main), true
}

// roundByHand tries all grades, the least one first.
func roundByHand(p impl.Piece) int {
	best := 0
	for grade := range 1001 {
		if apart(grade*p.Tonnes, p.Metal) < apart(best*p.Tonnes, p.Metal) {
			best = grade
		}
	}
	return best
}

// isBefore tells whether piece i comes before piece k in the order of the document.
func isBefore(l []impl.Piece, i, k int) bool {
	p, q := l[i], l[k]
	if p.Tonnes == 0 || q.Tonnes == 0 {
		return p.Tonnes > 0 || q.Tonnes == 0 && i < k
	}
	if p.Metal*q.Tonnes != q.Metal*p.Tonnes {
		return p.Metal*q.Tonnes > q.Metal*p.Tonnes
	}
	return i < k
}

// sortByHand puts each piece behind as many as come before it.
func sortByHand(l []impl.Piece) []int {
	order := make([]int, len(l))
	for i := range l {
		before := 0
		for k := range l {
			if k != i && isBefore(l, k, i) {
				before++
			}
		}
		order[before] = i
	}
	return order
}

func bestByHand(l []impl.Piece, tonnes int) ([]int, bool) {
	order := sortByHand(l)
	for n := range len(order) + 1 {
		sum := 0
		for _, i := range order[:n] {
			sum += l[i].Tonnes
		}
		if sum >= tonnes {
			return slices.Sorted(slices.Values(order[:n])), true
		}
	}
	return nil, false
}

// pieceLists are lists of each length, with pieces that are alike and with others.
func pieceLists() [][]impl.Piece {
	lists := [][]impl.Piece{{{}}, make([]impl.Piece, 20), slices.Repeat([]impl.Piece{piece(10000, 10000000, 4)}, 20), slices.Repeat([]impl.Piece{piece(1, 1, 3)}, 20)}
	for n := 1; n <= 20; n++ {
		for seed := range 6 {
			lists = append(lists, mixedPieces(n, 100*n+seed, seed%2 == 0))
		}
	}
	return lists
}

func TestPieceExample(t *testing.T) {
	m := impl.Model{Grid: impl.Grid{X: 2, Y: 1, Z: 1}, Tonnes: []int{100, 300}, Grades: []int{10, 30}, Rocks: []int{1, 2}}
	for i, want := range []impl.Piece{piece(100, 1000, 1), piece(300, 9000, 2)} {
		if p, ok := impl.PieceOf(m, i); p != want || !ok {
			t.Error("piece of a block", i, p, ok)
		}
	}
	if l, ok := impl.SplitPiece(piece(10, 35, 2), []int{1, 2}); !slices.Equal(l, []impl.Piece{piece(3, 11, 2), piece(7, 24, 2)}) || !ok {
		t.Error("split", l, ok)
	}
	if p, ok := impl.JoinPieces([]impl.Piece{piece(3, 11, 2), piece(7, 24, 2)}); p != piece(10, 35, 2) || !ok {
		t.Error("joined", p, ok)
	}
	coarse, gap, ok := impl.CoarseModel(m)
	want := impl.Model{Grid: impl.Grid{X: 1, Y: 1, Z: 1}, Tonnes: []int{400}, Grades: []int{25}, Rocks: []int{2}}
	if !sameModel(coarse, want) || gap != 0 || !ok {
		t.Error("coarse", coarse, gap, ok)
	}
}

func TestPieceLimits(t *testing.T) {
	if impl.MaxPieces != 20 {
		t.Error("MaxPieces", impl.MaxPieces)
	}
	for _, p := range validPieces() {
		if !impl.IsPiece(p) {
			t.Error("a valid piece is refused", p)
		}
	}
	for _, p := range wrongPieces() {
		if impl.IsPiece(p) {
			t.Error("an invalid piece is taken", p)
		}
	}
	for _, tonnes := range []int{-1, 0, 1, 2, 9999, 10000, 10001} {
		for _, metal := range []int{-1, 0, 1, 999, 1000, 1001, 2000, 2001, 9999000, 9999001, 10000000, 10000001, 10001000} {
			for rock := -1; rock <= 5; rock++ {
				want := tonnes >= 0 && tonnes <= 10000 && metal >= 0 && metal <= 1000*tonnes && rock >= 0 && rock <= 4
				if impl.IsPiece(piece(tonnes, metal, rock)) != want {
					t.Error("IsPiece is wrong about", tonnes, metal, rock)
				}
			}
		}
	}
}

func TestPiecesOfBlocks(t *testing.T) {
	for _, m := range validModels() {
		for i := range m.Tonnes {
			p, ok := impl.PieceOf(m, i)
			if p != piece(m.Tonnes[i], m.Tonnes[i]*m.Grades[i], m.Rocks[i]) || !ok || !impl.IsPiece(p) {
				t.Error("piece of a block", m, i, p, ok)
			}
		}
	}
}

func TestSplitPieces(t *testing.T) {
	for _, p := range validPieces() {
		for _, w := range validWeights() {
			if l, ok := impl.SplitPiece(p, w); !slices.Equal(l, splitByHand(p, w)) || !ok {
				t.Error("split", p, w, l, ok)
			}
		}
	}
}

func TestSplitsAtTheirEdges(t *testing.T) {
	for _, c := range []struct {
		p       impl.Piece
		weights []int
		want    []impl.Piece
	}{
		{piece(5, 7, 3), []int{1}, []impl.Piece{piece(5, 7, 3)}},
		{piece(5, 7, 3), []int{0, 9, 0}, []impl.Piece{piece(0, 0, 3), piece(5, 7, 3), piece(0, 0, 3)}},
		// All remainders are equal: the first ones get what remains.
		{piece(5, 5000, 1), []int{1, 1, 1}, []impl.Piece{piece(2, 2000, 1), piece(2, 2000, 1), piece(1, 1000, 1)}},
		{piece(1, 1000, 1), []int{100, 100}, []impl.Piece{piece(1, 1000, 1), piece(0, 0, 1)}},
		{piece(6, 1, 0), []int{1, 1}, []impl.Piece{piece(3, 1, 0), piece(3, 0, 0)}},
		// The remainders are 2, 4, 2 and 4: the second one and the last one get what remains.
		{piece(10, 0, 4), []int{2, 1, 2, 1}, []impl.Piece{piece(3, 0, 4), piece(2, 0, 4), piece(3, 0, 4), piece(2, 0, 4)}},
		{piece(1, 0, 4), []int{1, 2, 2}, []impl.Piece{piece(0, 0, 4), piece(1, 0, 4), piece(0, 0, 4)}},
		// Metal goes by the tonnes that were given, not by the weights.
		{piece(1, 900, 2), []int{49, 51}, []impl.Piece{piece(0, 0, 2), piece(1, 900, 2)}},
		{piece(3, 10, 2), []int{1, 1}, []impl.Piece{piece(2, 7, 2), piece(1, 3, 2)}},
		{piece(10000, 10000000, 0), []int{100, 0, 1}, []impl.Piece{piece(9901, 9901000, 0), piece(0, 0, 0), piece(99, 99000, 0)}},
		// Without tonnes all pieces are empty, with the same rock.
		{piece(0, 0, 3), []int{1, 0, 100}, []impl.Piece{piece(0, 0, 3), piece(0, 0, 3), piece(0, 0, 3)}},
		{piece(0, 0, 0), []int{1}, []impl.Piece{{}}},
		// A piece without metal, but with tonnes.
		{piece(4, 0, 2), []int{1, 3}, []impl.Piece{piece(1, 0, 2), piece(3, 0, 2)}},
	} {
		if l, ok := impl.SplitPiece(c.p, c.weights); !slices.Equal(l, c.want) || !ok {
			t.Error("split", c, l, ok)
		}
	}
}

// The weights must not all be 0, whether there are tonnes or not.
func TestWeightsThatAreAllZero(t *testing.T) {
	for _, p := range validPieces() {
		for n := 1; n <= 20; n++ {
			if l, ok := impl.SplitPiece(p, make([]int, n)); len(l) != 0 || ok {
				t.Error("split by nothing", p, n, l, ok)
			}
		}
	}
}

// Promise 3: parts of a piece have all of its tonnes and metal.
func TestPartsHaveAllTonnesAndMetal(t *testing.T) {
	for _, p := range validPieces() {
		for _, w := range validWeights() {
			parts, ok := impl.SplitPiece(p, w)
			if !ok || len(parts) != len(w) {
				t.Fatal("split", p, w, parts, ok)
			}
			if tonnes, metal := pieceSums(parts); tonnes != p.Tonnes || metal != p.Metal {
				t.Error("parts do not add up", p, w, parts)
			}
			for _, part := range parts {
				if !impl.IsPiece(part) || part.Rock != p.Rock {
					t.Error("a part is no piece of it", p, w, part)
				}
			}
			want := p
			if p.Tonnes == 0 {
				want.Rock = 0
			}
			if joined, ok := impl.JoinPieces(parts); joined != want || !ok {
				t.Error("joined parts", p, w, joined, ok)
			}
		}
	}
}

func TestJoinedPieces(t *testing.T) {
	for _, l := range pieceLists() {
		want, is := joinByHand(l)
		if p, ok := impl.JoinPieces(l); p != want || ok != is || ok && !impl.IsPiece(p) {
			t.Error("joined", l, p, ok)
		}
	}
}

func TestJoinsAtTheirEdges(t *testing.T) {
	for _, c := range []struct {
		l    []impl.Piece
		want impl.Piece
		ok   bool
	}{
		{[]impl.Piece{piece(7, 8, 4)}, piece(7, 8, 4), true},
		// Rocks with equal tonnes: the least one, wherever it stands.
		{[]impl.Piece{piece(5, 1, 4), piece(5, 2, 1), piece(5, 3, 3)}, piece(15, 6, 1), true},
		{[]impl.Piece{piece(5, 1, 0), piece(5, 2, 4)}, piece(10, 3, 0), true},
		// A rock counts with all its pieces, and metal does not count.
		{[]impl.Piece{piece(5, 5000, 0), piece(3, 0, 2), piece(3, 0, 2)}, piece(11, 5000, 2), true},
		{[]impl.Piece{piece(2, 0, 3), piece(4, 0, 1), piece(2, 0, 3)}, piece(8, 0, 1), true},
		{[]impl.Piece{piece(2, 0, 3), piece(4, 0, 1), piece(2, 0, 3), piece(1, 0, 3)}, piece(9, 0, 3), true},
		// Without tonnes all rocks have the same.
		{[]impl.Piece{piece(0, 0, 3)}, piece(0, 0, 0), true},
		{[]impl.Piece{piece(0, 0, 4), piece(0, 0, 2)}, piece(0, 0, 0), true},
		{[]impl.Piece{piece(0, 0, 1), piece(1, 0, 4)}, piece(1, 0, 4), true},
		{[]impl.Piece{piece(5000, 5000000, 2), piece(5000, 5000000, 1)}, piece(10000, 10000000, 1), true},
		{[]impl.Piece{piece(10000, 1, 2), piece(0, 0, 1)}, piece(10000, 1, 2), true},
		{[]impl.Piece{piece(10000, 1, 2), piece(1, 0, 1)}, impl.Piece{}, false},
		{[]impl.Piece{piece(5001, 0, 0), piece(5000, 0, 0)}, impl.Piece{}, false},
		{slices.Repeat([]impl.Piece{piece(500, 1, 4)}, 20), piece(10000, 20, 4), true},
		{slices.Repeat([]impl.Piece{piece(501, 1, 4)}, 20), impl.Piece{}, false},
		{slices.Repeat([]impl.Piece{piece(10000, 10000000, 4)}, 20), impl.Piece{}, false},
	} {
		if p, ok := impl.JoinPieces(c.l); p != c.want || ok != c.ok {
			t.Error("joined", c, p, ok)
		}
	}
}

// checkGrade demands the grade in lowest terms, or nothing if there are no tonnes.
func checkGrade(t *testing.T, p impl.Piece) {
	t.Helper()
	a, b, ok := impl.PieceGrade(p)
	if p.Tonnes == 0 {
		if a != 0 || b != 0 || ok {
			t.Error("a grade without tonnes", p, a, b, ok)
		}
		return
	}
	if !ok || b < 1 || a < 0 || a*p.Tonnes != b*p.Metal {
		t.Error("grade", p, a, b, ok)
	}
	for d := 2; d <= b; d++ {
		if a%d == 0 && b%d == 0 {
			t.Error("the grade is not in lowest terms", p, a, b)
			return
		}
	}
}

func TestGrades(t *testing.T) {
	for _, p := range validPieces() {
		checkGrade(t, p)
		if n, ok := impl.RoundedGrade(p); n != roundByHand(p) || !ok {
			t.Error("rounded grade", p, n, ok)
		}
	}
	for tonnes := range 14 {
		for metal := range 1000*tonnes + 1 {
			p := piece(tonnes, metal, tonnes%5)
			checkGrade(t, p)
			if n, ok := impl.RoundedGrade(p); n != roundByHand(p) || !ok {
				t.Error("rounded grade", p, n, ok)
			}
		}
	}
}

func TestGradesAtTheirEdges(t *testing.T) {
	for _, c := range []struct {
		p          impl.Piece
		a, b, next int
		ok         bool
	}{
		{piece(0, 0, 0), 0, 0, 0, false}, {piece(0, 0, 4), 0, 0, 0, false},
		{piece(7, 0, 0), 0, 1, 0, true}, {piece(10000, 0, 0), 0, 1, 0, true}, {piece(1, 1000, 0), 1000, 1, 1000, true}, {piece(10000, 10000000, 0), 1000, 1, 1000, true},
		// In the middle between two thousandths, and just beside it.
		{piece(10, 35, 2), 7, 2, 3, true}, {piece(10, 34, 2), 17, 5, 3, true}, {piece(10, 36, 2), 18, 5, 4, true}, {piece(2, 1, 0), 1, 2, 0, true}, {piece(2, 1999, 0), 1999, 2, 999, true},
		{piece(10000, 9995000, 0), 1999, 2, 999, true}, {piece(10000, 9995001, 0), 9995001, 10000, 1000, true}, {piece(10000, 9994999, 0), 9994999, 10000, 999, true},
		// With an odd number of tonnes nothing lies in the middle.
		{piece(3, 1, 0), 1, 3, 0, true}, {piece(3, 2, 0), 2, 3, 1, true}, {piece(9999, 4999, 0), 4999, 9999, 0, true}, {piece(9999, 5000, 0), 5000, 9999, 1, true},
	} {
		if a, b, ok := impl.PieceGrade(c.p); a != c.a || b != c.b || ok != c.ok {
			t.Error("grade", c, a, b, ok)
		}
		if n, ok := impl.RoundedGrade(c.p); n != c.next || !ok {
			t.Error("rounded grade", c, n, ok)
		}
	}
}

// coarseByHand is the coarse grid; its sides are counted by the places that are halved.
func coarseByHand(g impl.Grid) impl.Grid {
	coarse := impl.Grid{Z: g.Z}
	for x := 0; x < g.X; x += 2 {
		coarse.X++
	}
	for y := 0; y < g.Y; y += 2 {
		coarse.Y++
	}
	return coarse
}

func TestCoarseBlocks(t *testing.T) {
	for _, g := range allGrids() {
		coarse := spotsOf(coarseByHand(g))
		found := make([]bool, len(coarse))
		for i, s := range spotsOf(g) {
			want := slices.Index(coarse, spot{s.x / 2, s.y / 2, s.z})
			if k, ok := impl.CoarseBlock(g, i); k != want || !ok {
				t.Error("coarse block", g, i, k, ok)
			}
			found[want] = true
		}
		if slices.Contains(found, false) {
			t.Error("a coarse block has no blocks", g)
		}
	}
	// Odd sides: the last block is alone in x, in y, or in both.
	for _, c := range []struct {
		g       impl.Grid
		i, want int
	}{
		{impl.Grid{X: 3, Y: 1, Z: 2}, 5, 3}, {impl.Grid{X: 3, Y: 3, Z: 1}, 8, 3}, {impl.Grid{X: 3, Y: 3, Z: 1}, 4, 0}, {impl.Grid{X: 1, Y: 5, Z: 2}, 9, 5}, {impl.Grid{X: 7, Y: 5, Z: 3}, 104, 35}, {impl.Grid{X: 8, Y: 5, Z: 3}, 119, 35}, {impl.Grid{X: 1, Y: 1, Z: 5}, 4, 4},
	} {
		if k, ok := impl.CoarseBlock(c.g, c.i); k != c.want || !ok {
			t.Error("coarse block", c, k, ok)
		}
	}
}

// coarseModelByHand looks for the blocks of each coarse block; it reports false if they cannot be joined.
func coarseModelByHand(m impl.Model) (coarse impl.Model, gap int, ok bool) {
	coarse.Grid = coarseByHand(m.Grid)
	for _, place := range spotsOf(coarse.Grid) {
		var l []impl.Piece
		for i, s := range spotsOf(m.Grid) {
			if s.x/2 == place.x && s.y/2 == place.y && s.z == place.z {
				l = append(l, piece(m.Tonnes[i], m.Tonnes[i]*m.Grades[i], m.Rocks[i]))
			}
		}
		p, ok := joinByHand(l)
		if !ok {
			return impl.Model{}, 0, false
		}
		coarse.Tonnes = append(coarse.Tonnes, p.Tonnes)
		coarse.Grades = append(coarse.Grades, roundByHand(p))
		coarse.Rocks = append(coarse.Rocks, p.Rock)
	}
	_, before := sumsByHand(m, everyBlock(m))
	_, after := sumsByHand(coarse, everyBlock(coarse))
	return coarse, after - before, true
}

// lightModel is a mixed model whose blocks can be joined, as four of them have at most MaxTonnes tonnes.
func lightModel(g impl.Grid, seed, most int) impl.Model {
	m := mixedModel(g, seed)
	for i := range m.Tonnes {
		m.Tonnes[i] %= most + 1
	}
	return m
}

func TestCoarseModels(t *testing.T) {
	joined, refused := 0, 0
	for k, g := range allGrids() {
		for _, m := range []impl.Model{mixedModel(g, k), lightModel(g, k, 2500), lightModel(g, k+1, 3), lightModel(g, k+2, 1), evenModel(g, 2500, 1000, 4), evenModel(g, 10000, 1, 2), evenModel(g, 0, 1000, 3)} {
			want, wantGap, is := coarseModelByHand(m)
			coarse, gap, ok := impl.CoarseModel(m)
			if !sameModel(coarse, want) || gap != wantGap || ok != is || ok && !impl.IsModel(coarse) {
				t.Error("coarse model", m, coarse, gap, ok)
			}
			if is {
				joined++
			} else {
				refused++
			}
		}
	}
	if joined < 100 || refused < 100 {
		t.Error("too few models of one kind", joined, refused)
	}
}

func TestCoarseModelsAtTheirEdges(t *testing.T) {
	row := func(tonnes, grades, rocks []int) impl.Model {
		return impl.Model{Grid: impl.Grid{X: len(tonnes), Y: 1, Z: 1}, Tonnes: tonnes, Grades: grades, Rocks: rocks}
	}
	for _, c := range []struct {
		m, want impl.Model
		gap     int
		ok      bool
	}{
		// A grade is rounded down from the middle and metal is lost; or it is rounded up and metal is won.
		{row([]int{1, 1}, []int{1, 2}, []int{3, 2}), row([]int{2}, []int{1}, []int{2}), -1, true},
		{row([]int{1, 2}, []int{1, 2}, []int{3, 2}), row([]int{3}, []int{2}, []int{2}), 1, true},
		{row([]int{2, 1}, []int{1, 2}, []int{3, 2}), row([]int{3}, []int{1}, []int{3}), -1, true},
		// Gains and losses of two blocks.
		{row([]int{1, 2, 2, 1}, []int{1, 2, 1, 2}, []int{0, 0, 0, 0}), row([]int{3, 3}, []int{2, 1}, []int{0, 0}), 0, true},
		// An odd side: the last block is alone and keeps what it has, but without tonnes it has neither grade nor rock.
		{row([]int{0, 0, 7}, []int{9, 9, 8}, []int{4, 4, 4}), row([]int{0, 7}, []int{0, 8}, []int{0, 4}), 0, true},
		{row([]int{7, 0, 0}, []int{8, 9, 9}, []int{4, 1, 4}), row([]int{7, 0}, []int{8, 0}, []int{4, 0}), 0, true},
		{row([]int{5000, 5000}, []int{1000, 1000}, []int{1, 1}), row([]int{10000}, []int{1000}, []int{1}), 0, true},
		{row([]int{5000, 5001}, []int{0, 0}, []int{1, 1}), impl.Model{}, 0, false},
		{row([]int{1, 1, 5000, 5001}, []int{1, 2, 0, 0}, []int{1, 1, 1, 1}), impl.Model{}, 0, false},
		{row([]int{5000, 5001, 1}, []int{1, 1, 1}, []int{1, 1, 1}), impl.Model{}, 0, false},
		{row([]int{1, 1, 10000}, []int{1, 1, 1}, []int{1, 1, 1}), row([]int{2, 10000}, []int{1, 1}, []int{1, 1}), 0, true},
	} {
		if coarse, gap, ok := impl.CoarseModel(c.m); !sameModel(coarse, c.want) || gap != c.gap || ok != c.ok {
			t.Error("coarse model", c, coarse, gap, ok)
		}
	}
	// Blocks below each other are not joined.
	m := evenModel(impl.Grid{X: 1, Y: 1, Z: 5}, 10000, 999, 4)
	if coarse, gap, ok := impl.CoarseModel(m); !sameModel(coarse, m) || gap != 0 || !ok {
		t.Error("a column", coarse, gap, ok)
	}
}

func TestSortedPieces(t *testing.T) {
	for _, l := range pieceLists() {
		if order, ok := impl.SortPieces(l); !slices.Equal(order, sortByHand(l)) || !ok {
			t.Error("sorted", l, order, ok)
		}
	}
	for _, c := range []struct {
		l    []impl.Piece
		want []int
	}{
		{[]impl.Piece{piece(10, 35, 2), piece(10, 50, 0), {}}, []int{1, 0, 2}},
		{[]impl.Piece{{}}, []int{0}},
		// Equal grades stay in order, whatever the tonnes and rocks.
		{[]impl.Piece{piece(2, 4, 4), piece(1, 2, 0), piece(10000, 20000, 3), piece(1, 3, 0)}, []int{3, 0, 1, 2}},
		// Without tonnes a piece comes behind those with the grade 0.
		{[]impl.Piece{{}, piece(0, 0, 4), piece(1, 0, 0), piece(5, 0, 0), piece(1, 1000, 0)}, []int{4, 2, 3, 0, 1}},
		// Grades that differ by less than a thousandth.
		{[]impl.Piece{piece(9999, 1, 0), piece(10000, 1, 0), piece(9998, 1, 0)}, []int{2, 0, 1}},
		{[]impl.Piece{piece(9999, 9998999, 0), piece(10000, 9999999, 0)}, []int{1, 0}},
	} {
		if order, ok := impl.SortPieces(c.l); !slices.Equal(order, c.want) || !ok {
			t.Error("sorted", c, order, ok)
		}
	}
}

// wantedTonnes are the numbers around the sums of the first pieces of a list, in its order, and those at the limits.
func wantedTonnes(l []impl.Piece) []int {
	wanted := []int{0, 1, 200000}
	sum := 0
	for _, i := range sortByHand(l) {
		sum += l[i].Tonnes
		wanted = append(wanted, max(0, sum-1), sum, min(200000, sum+1))
	}
	return wanted
}

// Promise 3: the best pieces suffice, and none of them is needless or behind one that is left.
func TestBestPiecesSuffice(t *testing.T) {
	for _, l := range pieceLists() {
		all, _ := pieceSums(l)
		for _, wanted := range wantedTonnes(l) {
			best, ok := impl.BestPieces(l, wanted)
			if ok != (all >= wanted) {
				t.Error("best pieces", l, wanted, best, ok)
			}
			if !ok {
				continue
			}
			sum := 0
			for _, i := range best {
				sum += l[i].Tonnes
			}
			if sum < wanted || !isIncreasing(best) {
				t.Error("the best pieces do not suffice", l, wanted, best)
			}
			for _, i := range best {
				for k := range l {
					if !slices.Contains(best, k) && isBefore(l, k, i) {
						t.Error("a better piece is left", l, wanted, best, k)
					}
				}
			}
		}
	}
}

func TestBestPieces(t *testing.T) {
	for _, l := range pieceLists() {
		for _, wanted := range wantedTonnes(l) {
			want, is := bestByHand(l, wanted)
			if best, ok := impl.BestPieces(l, wanted); !slices.Equal(best, want) || ok != is {
				t.Error("best pieces", l, wanted, best, ok)
			}
		}
	}
}

func TestBestPiecesAtTheirEdges(t *testing.T) {
	l := []impl.Piece{{}, piece(10, 35, 2), piece(10, 50, 0), piece(5, 0, 1)}
	full := slices.Repeat([]impl.Piece{piece(10000, 1, 0)}, 20)
	for _, c := range []struct {
		l      []impl.Piece
		tonnes int
		want   []int
		ok     bool
	}{
		// None are wanted, some are exactly there, and some are not there.
		{l, 0, nil, true}, {l, 1, []int{2}, true}, {l, 10, []int{2}, true}, {l, 11, []int{1, 2}, true}, {l, 20, []int{1, 2}, true}, {l, 21, []int{1, 2, 3}, true}, {l, 25, []int{1, 2, 3}, true}, {l, 26, nil, false}, {l, 200000, nil, false},
		{[]impl.Piece{{}}, 0, nil, true}, {[]impl.Piece{{}}, 1, nil, false}, {make([]impl.Piece, 20), 0, nil, true},
		{full, 0, nil, true}, {full, 10000, []int{0}, true}, {full, 10001, []int{0, 1}, true}, {full, 200000, validLists(20)[4], true}, {full, 200001, nil, false}, {full, -1, nil, false},
		{full[:19], 190000, validLists(19)[4], true}, {full[:19], 190001, nil, false},
	} {
		if best, ok := impl.BestPieces(c.l, c.tonnes); !slices.Equal(best, c.want) || ok != c.ok {
			t.Error("best pieces", c, best, ok)
		}
	}
	for _, n := range outside(200000) {
		if best, ok := impl.BestPieces(full, n); len(best) != 0 || ok {
			t.Error("best pieces for tonnes out of range", n, best, ok)
		}
	}
}

func TestWrongPiecesGiveNothing(t *testing.T) {
	for _, p := range wrongPieces() {
		for _, w := range append(validWeights(), wrongWeights()...) {
			if l, ok := impl.SplitPiece(p, w); len(l) != 0 || ok {
				t.Error("split", p, w, l, ok)
			}
		}
		if a, b, ok := impl.PieceGrade(p); a != 0 || b != 0 || ok {
			t.Error("grade", p, a, b, ok)
		}
		if n, ok := impl.RoundedGrade(p); n != 0 || ok {
			t.Error("rounded grade", p, n, ok)
		}
	}
	for _, p := range validPieces() {
		for _, w := range wrongWeights() {
			if l, ok := impl.SplitPiece(p, w); len(l) != 0 || ok {
				t.Error("split by wrong weights", p, w, l, ok)
			}
		}
	}
}

func TestWrongListsOfPiecesGiveNothing(t *testing.T) {
	for _, l := range wrongPieceLists() {
		if p, ok := impl.JoinPieces(l); p != (impl.Piece{}) || ok {
			t.Error("joined", l, p, ok)
		}
		if order, ok := impl.SortPieces(l); len(order) != 0 || ok {
			t.Error("sorted", l, order, ok)
		}
		for _, n := range append([]int{10000, 200000, 200001}, edgeInts()...) {
			if best, ok := impl.BestPieces(l, n); len(best) != 0 || ok {
				t.Error("best pieces", l, n, best, ok)
			}
		}
	}
}

func TestWrongModelsAndBlocksGiveNoPieces(t *testing.T) {
	for _, m := range wrongModels() {
		for _, i := range append([]int{0}, edgeInts()...) {
			if p, ok := impl.PieceOf(m, i); p != (impl.Piece{}) || ok {
				t.Error("piece of a block", m, i, p, ok)
			}
		}
		if coarse, gap, ok := impl.CoarseModel(m); !isNoModel(coarse) || gap != 0 || ok {
			t.Error("coarse model", m, coarse, gap, ok)
		}
	}
	for k, g := range allGrids() {
		m := evenModel(g, 1+k, 1+k, k%5)
		for _, i := range outside(len(m.Tonnes) - 1) {
			if p, ok := impl.PieceOf(m, i); p != (impl.Piece{}) || ok {
				t.Error("piece of a block", m, i, p, ok)
			}
			if k, ok := impl.CoarseBlock(g, i); k != 0 || ok {
				t.Error("coarse block", g, i, k, ok)
			}
		}
	}
	for _, g := range wrongGrids() {
		for _, i := range edgeInts() {
			if k, ok := impl.CoarseBlock(g, i); k != 0 || ok {
				t.Error("coarse block", g, i, k, ok)
			}
		}
	}
}

// Promise 33: no argument makes a function of chapter 3 panic.
func TestPiecesNeverPanic(t *testing.T) {
	var pieces []impl.Piece
	for _, tonnes := range edgeInts() {
		for _, metal := range edgeInts() {
			for _, rock := range []int{math.MinInt, -1, 0, 4, 5, math.MaxInt} {
				pieces = append(pieces, piece(tonnes, metal, rock))
			}
		}
	}
	pieces = append(append(pieces, wrongPieces()...), validPieces()...)
	weights := append(wrongWeights(), validWeights()...)
	for _, p := range pieces {
		noPanic(t, fmt.Sprint("a function of the piece ", p), func() {
			impl.IsPiece(p)
			impl.PieceGrade(p)
			impl.RoundedGrade(p)
			for _, w := range weights {
				impl.SplitPiece(p, w)
			}
		})
	}
	lists := append(wrongPieceLists(), pieceLists()...)
	for n := range 30 {
		lists = append(lists, pieces[n*50:n*50+n])
	}
	for _, l := range lists {
		noPanic(t, fmt.Sprint("a function of the pieces ", l), func() {
			impl.JoinPieces(l)
			impl.SortPieces(l)
			for _, n := range edgeInts() {
				impl.BestPieces(l, n)
			}
		})
	}
	for _, m := range append(wrongModels(), validModels()...) {
		noPanic(t, fmt.Sprint("a function of the model ", m), func() {
			impl.CoarseModel(m)
			for _, n := range edgeInts() {
				impl.PieceOf(m, n)
				impl.CoarseBlock(m.Grid, n)
			}
		})
	}
}

// Promise 33: no function of chapter 3 changes its arguments or what lies behind them.
func TestPieceArgumentsStay(t *testing.T) {
	for _, given := range append(wrongPieceLists(), pieceLists()...) {
		whole := append(slices.Clone(given), piece(-9, -8, -7), piece(-6, -5, -4))
		kept := slices.Clone(whole)
		spoilPieces(whole[:len(given)])
		if !slices.Equal(whole, kept) {
			t.Fatal("pieces are changed", given, whole)
		}
	}
	for _, given := range append(wrongWeights(), validWeights()...) {
		for _, p := range []impl.Piece{{}, piece(1, 1, 1), piece(10000, 9999999, 4)} {
			l, whole := roomy(given)
			kept := slices.Clone(whole)
			parts, _ := impl.SplitPiece(p, l)
			clear(parts[:cap(parts)])
			if !slices.Equal(whole, kept) {
				t.Fatal("weights are changed", given, whole)
			}
		}
	}
	models := append(wrongModels(), validModels()[:40]...)
	for k, g := range allGrids() {
		models = append(models, lightModel(g, k, 2500))
	}
	for _, given := range models {
		m := given
		var memory, kept [3][]int
		m.Tonnes, memory[0] = roomy(given.Tonnes)
		m.Grades, memory[1] = roomy(given.Grades)
		m.Rocks, memory[2] = roomy(given.Rocks)
		for k := range memory {
			kept[k] = slices.Clone(memory[k])
		}
		impl.PieceOf(m, 0)
		coarse, _, _ := impl.CoarseModel(m)
		for _, l := range [][]int{coarse.Tonnes, coarse.Grades, coarse.Rocks} {
			spoilList(l)
		}
		for k := range memory {
			if !slices.Equal(memory[k], kept[k]) {
				t.Fatal("a model is changed", given, k, memory[k])
			}
		}
	}
}

// spoilPieces calls all functions of a list of pieces and writes into what they return, so that shared memory shows.
func spoilPieces(l []impl.Piece) {
	impl.JoinPieces(l)
	order, _ := impl.SortPieces(l)
	spoilList(order)
	for _, n := range []int{-1, 0, 1, 5000, 200000} {
		best, _ := impl.BestPieces(l, n)
		spoilList(best)
	}
}

// Promise 33: results are new memory, and no two lists of one result share it.
func TestPieceResultsAreNew(t *testing.T) {
	l := mixedPieces(20, 8, false)
	checkFresh(t, "SortPieces", func() []int { order, _ := impl.SortPieces(l); return order })
	checkFresh(t, "BestPieces", func() []int { best, _ := impl.BestPieces(l, 30000); return best })
	for _, w := range validWeights() {
		p := piece(9999, 1234567, 3)
		first, _ := impl.SplitPiece(p, w)
		second, _ := impl.SplitPiece(p, w)
		clear(second[:cap(second)])
		third, _ := impl.SplitPiece(p, w)
		if want := splitByHand(p, w); !slices.Equal(first, want) || !slices.Equal(third, want) {
			t.Error("SplitPiece: results share memory", w, first, third)
		}
	}
	for k, g := range allGrids() {
		m := lightModel(g, k, 2500)
		want, _, _ := coarseModelByHand(m)
		first, _, _ := impl.CoarseModel(m)
		second, _, _ := impl.CoarseModel(m)
		checkApart(t, "CoarseModel", [][]int{second.Tonnes, second.Grades, second.Rocks}, [][]int{want.Tonnes, want.Grades, want.Rocks})
		if third, _, _ := impl.CoarseModel(m); !sameModel(first, want) || !sameModel(third, want) {
			t.Error("CoarseModel: results share memory", m)
		}
	}
}
