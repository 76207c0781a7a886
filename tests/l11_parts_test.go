package tests

import (
	"fmt"
	"slices"
	"testing"

	"loop.example/g01013/impl"
)

// partsAsTold makes a part of each cell, and then one of two parts as long as a cell of one is next to a cell of the other.
func partsAsTold(g impl.Grid, cells []int64) [][]int64 {
	parts := [][]int64{}
	for _, cell := range cells {
		isNext := func(part []int64) bool {
			return slices.ContainsFunc(part, func(other int64) bool {
				_, exists := directionAsTold(g, cell, other)
				return exists
			})
		}
		joined := []int64{cell}
		for _, part := range parts {
			if isNext(part) {
				joined = append(joined, part...)
			}
		}
		slices.Sort(joined)
		parts = append(slices.DeleteFunc(parts, isNext), joined)
	}
	slices.SortFunc(parts, func(a, b []int64) int { return int(a[0] - b[0]) })
	return parts
}

// checkPartsPromise is the twelfth promise.
func checkPartsPromise(t *testing.T, g impl.Grid, cells []int64, parts [][]int64) {
	t.Helper()
	all := slices.Concat(parts...)
	slices.Sort(all)
	if !slices.Equal(all, cells) {
		t.Errorf("the parts %v of %v do not make them up, or have a cell in common", parts, cells)
	}
	for i, part := range parts {
		if !impl.IsConnected(g, part) {
			t.Errorf("the part %v of %v is not connected", part, cells)
		}
		for _, other := range parts[:i] {
			both := slices.Concat(part, other)
			slices.Sort(both)
			if impl.IsConnected(g, both) {
				t.Errorf("the parts %v and %v of %v are connected", other, part, cells)
			}
		}
	}
}

func checkParts(t *testing.T, g impl.Grid, cells []int64, want [][]int64) {
	t.Helper()
	parts, code := impl.PartsOf(g, cells)
	checkLists(t, fmt.Sprint("PartsOf ", g.Rows, g.Columns, cells), parts, code, want, impl.OK)
	checkPartsPromise(t, g, cells, parts)
	var largest []int64
	wanted := int64(impl.ErrNotFound)
	for _, part := range want {
		if len(part) > len(largest) {
			largest, wanted = part, impl.OK
		}
	}
	part, code := impl.LargestPart(g, cells)
	checkNumbers(t, fmt.Sprint("LargestPart ", g.Rows, g.Columns, cells), part, code, largest, wanted)
	if got := impl.IsConnected(g, cells); got != (len(want) == 1) {
		t.Errorf("IsConnected of %d by %d and %v = %v", g.Rows, g.Columns, cells, got)
	}
}

func TestPartsOfAllCellsOfSmallGrids(t *testing.T) {
	for _, g := range smallShapes() {
		for _, cells := range allCellsOf(g) {
			checkParts(t, g, cells, partsAsTold(g, cells))
		}
	}
}

// TestPartsOf has grids of all shapes; their heights do not count.
func TestPartsOf(t *testing.T) {
	for _, g := range append(goodGrids(), mixedGrids(2)...) {
		for _, cells := range someCellsOf(g) {
			checkParts(t, g, cells, partsAsTold(g, cells))
		}
	}
}

func TestKnownParts(t *testing.T) {
	for _, known := range []struct {
		rows, columns int64
		cells         []int64
		want          [][]int64
	}{
		{1, 1, nil, nil}, {1, 1, []int64{}, nil}, {1, 1, []int64{0}, [][]int64{{0}}}, {8, 8, nil, nil}, {3, 3, []int64{5}, [][]int64{{5}}}, {3, 3, []int64{0, 1, 2, 3, 4, 5, 6, 7, 8}, [][]int64{{0, 1, 2, 3, 4, 5, 6, 7, 8}}},
		// Sides and corners connect alike.
		{3, 3, []int64{0, 1}, [][]int64{{0, 1}}}, {3, 3, []int64{0, 3}, [][]int64{{0, 3}}}, {3, 3, []int64{0, 4}, [][]int64{{0, 4}}}, {3, 3, []int64{1, 3}, [][]int64{{1, 3}}}, {3, 3, []int64{4, 6}, [][]int64{{4, 6}}}, {3, 3, []int64{0, 4, 8}, [][]int64{{0, 4, 8}}}, {3, 3, []int64{2, 4, 6}, [][]int64{{2, 4, 6}}}, {3, 3, []int64{1, 3, 5, 7}, [][]int64{{1, 3, 5, 7}}}, {2, 2, []int64{0, 3}, [][]int64{{0, 3}}}, {2, 2, []int64{1, 2}, [][]int64{{1, 2}}},
		{3, 3, []int64{0, 2}, [][]int64{{0}, {2}}}, {3, 3, []int64{0, 6}, [][]int64{{0}, {6}}}, {3, 3, []int64{0, 8}, [][]int64{{0}, {8}}}, {3, 3, []int64{0, 5}, [][]int64{{0}, {5}}}, {3, 3, []int64{0, 7}, [][]int64{{0}, {7}}}, {3, 3, []int64{0, 2, 6, 8}, [][]int64{{0}, {2}, {6}, {8}}}, {3, 3, []int64{0, 2, 4, 6, 8}, [][]int64{{0, 2, 4, 6, 8}}},
		// The two ends of rows do not touch.
		{3, 3, []int64{2, 3}, [][]int64{{2}, {3}}}, {3, 3, []int64{5, 6}, [][]int64{{5}, {6}}}, {3, 3, []int64{0, 5}, [][]int64{{0}, {5}}}, {3, 3, []int64{2, 6}, [][]int64{{2}, {6}}}, {3, 3, []int64{2, 3, 8}, [][]int64{{2}, {3}, {8}}}, {3, 2, []int64{1, 4}, [][]int64{{1}, {4}}}, {2, 3, []int64{0, 2, 3, 5}, [][]int64{{0, 3}, {2, 5}}}, {8, 8, []int64{7, 8}, [][]int64{{7}, {8}}}, {8, 8, []int64{7, 16}, [][]int64{{7}, {16}}}, {8, 8, []int64{0, 15}, [][]int64{{0}, {15}}}, {8, 8, []int64{0, 63}, [][]int64{{0}, {63}}},
		// One row and one column.
		{1, 8, []int64{0, 2, 4, 6}, [][]int64{{0}, {2}, {4}, {6}}}, {1, 8, []int64{0, 1, 3, 4, 5, 7}, [][]int64{{0, 1}, {3, 4, 5}, {7}}}, {1, 8, []int64{0, 7}, [][]int64{{0}, {7}}}, {8, 1, []int64{0, 1, 3, 4, 5, 7}, [][]int64{{0, 1}, {3, 4, 5}, {7}}}, {8, 1, []int64{1, 2, 3, 4, 5, 6, 7}, [][]int64{{1, 2, 3, 4, 5, 6, 7}}},
		// Several parts with as many cells: the first one is the largest.
		{1, 8, []int64{0, 1, 3, 4, 6, 7}, [][]int64{{0, 1}, {3, 4}, {6, 7}}}, {1, 8, []int64{0, 2, 3, 5, 6}, [][]int64{{0}, {2, 3}, {5, 6}}}, {3, 3, []int64{0, 1, 2, 6, 7, 8}, [][]int64{{0, 1, 2}, {6, 7, 8}}}, {3, 3, []int64{0, 2, 3, 5, 6, 8}, [][]int64{{0, 3, 6}, {2, 5, 8}}},
		// Parts whose least cells lie far apart, within each other and side by side.
		{8, 8, []int64{0, 1, 62, 63}, [][]int64{{0, 1}, {62, 63}}}, {5, 5, []int64{0, 1, 2, 3, 4, 5, 9, 10, 12, 14, 15, 19, 20, 21, 22, 23, 24}, [][]int64{{0, 1, 2, 3, 4, 5, 9, 10, 14, 15, 19, 20, 21, 22, 23, 24}, {12}}}, {4, 5, []int64{0, 2, 4, 5, 7, 9, 10, 12, 14, 15, 17, 19}, [][]int64{{0, 5, 10, 15}, {2, 7, 12, 17}, {4, 9, 14, 19}}}, {3, 5, []int64{0, 4, 5, 9, 12}, [][]int64{{0, 5}, {4, 9}, {12}}},
		// Parts that become one only by their last cells, from the left, from the right and from several sides.
		{3, 5, []int64{0, 2, 4, 5, 7, 9, 10, 11, 12, 13, 14}, [][]int64{{0, 2, 4, 5, 7, 9, 10, 11, 12, 13, 14}}}, {3, 5, []int64{0, 4, 5, 9, 10, 11, 12, 13, 14}, [][]int64{{0, 4, 5, 9, 10, 11, 12, 13, 14}}}, {3, 5, []int64{0, 4, 6, 8, 12}, [][]int64{{0, 4, 6, 8, 12}}}, {3, 7, []int64{0, 6, 8, 12, 16, 17, 18}, [][]int64{{0, 6, 8, 12, 16, 17, 18}}}, {4, 4, []int64{3, 7, 8, 9, 11, 14}, [][]int64{{3, 7, 8, 9, 11, 14}}}, {4, 4, []int64{3, 7, 8, 9, 11, 13}, [][]int64{{3, 7, 11}, {8, 9, 13}}},
		{8, 8, []int64{0, 9, 18, 27, 36, 45, 54, 63}, [][]int64{{0, 9, 18, 27, 36, 45, 54, 63}}}, {8, 8, []int64{7, 14, 21, 28, 35, 42, 49, 56}, [][]int64{{7, 14, 21, 28, 35, 42, 49, 56}}}, {8, 8, []int64{7, 14, 21, 35, 42, 49, 56}, [][]int64{{7, 14, 21}, {35, 42, 49, 56}}},
	} {
		checkParts(t, flatGrid(known.rows, known.columns, 5), known.cells, known.want)
	}
}

func TestLargestPartIsTheFirstOfSeveral(t *testing.T) {
	for _, known := range []struct {
		cells, want []int64
	}{
		{[]int64{0, 1, 3, 4, 6, 7}, []int64{0, 1}}, {[]int64{0, 2, 4, 6}, []int64{0}}, {[]int64{0, 2, 3, 5, 6}, []int64{2, 3}}, {[]int64{0, 1, 3, 5, 6, 7}, []int64{5, 6, 7}}, {[]int64{0, 1, 2, 4, 5, 6}, []int64{0, 1, 2}}, {[]int64{0, 2, 4, 6, 7}, []int64{6, 7}}, {[]int64{7}, []int64{7}},
	} {
		for _, g := range []impl.Grid{flatGrid(1, 8, 5), flatGrid(8, 1, 5)} {
			got, code := impl.LargestPart(g, known.cells)
			checkNumbers(t, fmt.Sprint("LargestPart ", known.cells), got, code, known.want, impl.OK)
		}
	}
}

func TestIsConnected(t *testing.T) {
	g := flatGrid(3, 3, 5)
	for _, cells := range [][]int64{{0}, {8}, {0, 1}, {0, 4}, {1, 3}, {0, 1, 4}, {2, 4, 6}, cellsOf(g)} {
		if !impl.IsConnected(g, cells) {
			t.Errorf("IsConnected(%v) = false", cells)
		}
	}
	for _, cells := range append(badCellsOf(g), nil, []int64{}, []int64{0, 2}, []int64{2, 3}, []int64{0, 8}, []int64{0, 1, 8}) {
		if impl.IsConnected(g, cells) {
			t.Errorf("IsConnected(%.80v) = true", cells)
		}
	}
	for _, g := range badGrids() {
		for _, cells := range [][]int64{nil, {}, {0}, {0, 1}, cellsOf(g)} {
			if impl.IsConnected(g, cells) {
				t.Errorf("IsConnected(%.80v, %.80v) = true", g, cells)
			}
		}
	}
}
