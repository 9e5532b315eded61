package tests

import (
	"math"
	"slices"
	"testing"

	"loop.example/g00914/impl"
)

// edgeInts are numbers at and beyond the limits of all ranges, and numbers whose products and sums wrap around to small ones.
func edgeInts() []int {
	return []int{
		math.MinInt, math.MinInt + 1, -1 << 62, -1 << 32, -121, -1, 0, 1, 5, 6, 8, 9, 119, 120, 121,
		1 << 31, 1 << 32, 1 << 61, 1 << 62, math.MaxInt - 1, math.MaxInt,
	}
}

// allGrids are all valid grids, found by the words of the document and not by IsGrid.
func allGrids() []impl.Grid {
	var grids []impl.Grid
	for x := 1; x <= 8; x++ {
		for y := 1; y <= 6; y++ {
			for z := 1; z <= 5; z++ {
				if x*y*z <= 120 {
					grids = append(grids, impl.Grid{X: x, Y: y, Z: z})
				}
			}
		}
	}
	return grids
}

// wrongGrids are grids that are just too large or too small, and grids far outside every range.
func wrongGrids() []impl.Grid {
	grids := []impl.Grid{
		{}, {X: 0, Y: 1, Z: 1}, {X: 1, Y: 0, Z: 1}, {X: 1, Y: 1, Z: 0},
		{X: 9, Y: 1, Z: 1}, {X: 1, Y: 7, Z: 1}, {X: 1, Y: 1, Z: 6},
		{X: 8, Y: 6, Z: 5}, {X: 8, Y: 6, Z: 3}, {X: 7, Y: 6, Z: 3}, {X: 5, Y: 5, Z: 5},
		{X: -2, Y: -2, Z: 2}, {X: -1, Y: 1, Z: -1}, {X: 1 << 32, Y: 1 << 32, Z: 1}, {X: 1 << 62, Y: 4, Z: 1},
	}
	for _, n := range edgeInts() {
		if n < 1 || n > 8 {
			grids = append(grids, impl.Grid{X: n, Y: 1, Z: 1}, impl.Grid{X: 1, Y: n, Z: 1}, impl.Grid{X: 1, Y: 1, Z: n}, impl.Grid{X: n, Y: n, Z: n})
		}
	}
	return grids
}

func noPanic(t *testing.T, what string, call func()) {
	t.Helper()
	defer func() {
		if r := recover(); r != nil {
			t.Errorf("%s panics: %v", what, r)
		}
	}()
	call()
}

func isIncreasing(l []int) bool {
	for k := 1; k < len(l); k++ {
		if l[k-1] >= l[k] {
			return false
		}
	}
	return true
}

// checkFresh spoils one result, with the memory behind its length, and demands that an earlier one and a later one are not touched.
func checkFresh(t *testing.T, what string, call func() []int) {
	t.Helper()
	first, second := call(), call()
	kept := slices.Clone(first)
	spoilt := second[:cap(second)]
	for k := range spoilt {
		spoilt[k] = -7
	}
	if !slices.Equal(first, kept) {
		t.Errorf("%s: two results share memory", what)
	}
	if third := call(); !slices.Equal(third, kept) {
		t.Errorf("%s: a changed result changes a later one: %v, not %v", what, third, kept)
	}
}
