package tests

import (
	"reflect"
	"slices"
	"testing"

	"loop.example/g01013/impl"
)

// Each function has exactly the type that chapter 11 gives.
var (
	_ func(impl.Grid) ([]int64, int64)                        = impl.SlopesOf
	_ func(impl.Grid, int64, int64, []int64) ([]int64, int64) = impl.StartCells
	_ func(impl.Grid, []int64) ([][]int64, int64)             = impl.PartsOf
	_ func(impl.Grid, []int64) ([]int64, int64)               = impl.LargestPart
	_ func(impl.Grid, []int64) bool                           = impl.IsConnected
	_ func(impl.Grid, []int64) (int64, int64)                 = impl.AreaOf
	_ func(impl.Grid, []int64) ([]int64, int64)               = impl.BorderOf
	_ func(impl.Grid, []int64, int64) ([]int64, int64)        = impl.GrowCells
	_ func(impl.Grid, []int64) ([]int64, int64)               = impl.AboveCells
)

// releaseResults holds the results of all functions of chapter 11.
func releaseResults(g impl.Grid, q releaseQuestion) []any {
	results := []any{impl.IsConnected(g, q.cells)}
	for _, f := range releaseFunctions() {
		answers, code := f.call(g, q)
		results = append(results, answers, code)
	}
	return results
}

// copyOfRelease returns a question with lists of its own.
func copyOfRelease(q releaseQuestion) releaseQuestion {
	q.cells, q.aspects = slices.Clone(q.cells), slices.Clone(q.aspects)
	return q
}

// checkEqualReleases checks that equal arguments give equal results.
func checkEqualReleases(t *testing.T, g impl.Grid, q releaseQuestion) {
	t.Helper()
	first, second := releaseResults(g, q), releaseResults(copyOfGrid(g), copyOfRelease(q))
	if !reflect.DeepEqual(first, second) {
		t.Errorf("%.200v and %.200v: %v, then %v", g, q, first, second)
	}
}

// withSpare returns a list with numbers in its unused capacity, and the whole list.
func withSpare(list []int64) (part, whole []int64) {
	whole = slices.Concat(list, []int64{41, 42, 43})
	return whole[:len(list)], whole
}

func TestReleasesStayAsTheyWere(t *testing.T) {
	for _, g := range append(goodGrids(), badGrids()...) {
		for _, cells := range append(someCellsOf(flatGrid(2, 2, 5)), badCellsOf(flatGrid(2, 2, 5))...) {
			for _, aspects := range [][]int64{nil, {0, 3, 7}, {7, 3, 0}, {3, 3}} {
				var wholes [3][]int64
				grid, q := g, releaseQuestion{low: 100, high: 1000, most: 7}
				grid.Heights, wholes[0] = withSpare(g.Heights)
				q.cells, wholes[1] = withSpare(cells)
				q.aspects, wholes[2] = withSpare(aspects)
				before := [3][]int64{slices.Clone(wholes[0]), slices.Clone(wholes[1]), slices.Clone(wholes[2])}
				releaseResults(grid, q)
				if !slices.EqualFunc(wholes[:], before[:], slices.Equal) {
					t.Errorf("%.80v, %.80v or %v was changed", g, cells, aspects)
				}
			}
		}
	}
}

func TestReleasesReturnForOddNumbers(t *testing.T) {
	for _, g := range []impl.Grid{{}, gridOf(-1, -1, -1), answeredGrid(), flatGrid(1, 1, 5), flatGrid(8, 8, 5)} {
		for _, a := range oddNumbers() {
			for _, b := range oddNumbers() {
				for _, list := range [][]int64{nil, {a}, {a, b}, {0, a}, {b, 5}} {
					checkEqualReleases(t, g, releaseQuestion{low: a, high: b, most: a, cells: list, aspects: list})
					checkEqualReleases(t, g, releaseQuestion{low: 0, high: 10000, most: b, cells: list, aspects: list})
				}
			}
		}
	}
}

func TestReleasesReturnForOddLists(t *testing.T) {
	for _, heights := range oddLists() {
		for _, list := range append(oddLists(), []int64{0, 1, 2}, []int64{0, 2}) {
			q := releaseQuestion{low: 0, high: 10000, most: 5000, cells: list, aspects: list}
			for _, g := range []impl.Grid{gridOf(1, int64(len(heights)), 10, heights...), gridOf(int64(len(heights)), 1, 10, heights...), gridOf(8, 8, 10, heights...), {Heights: heights}} {
				checkEqualReleases(t, g, q)
			}
		}
	}
}

// listsOfReleases holds all lists that the functions of chapter 11 make.
func listsOfReleases(g impl.Grid, cells, aspects []int64) [][]int64 {
	slopes, _ := impl.SlopesOf(g)
	starts, _ := impl.StartCells(g, 0, 10000, aspects)
	lists, _ := impl.PartsOf(g, cells)
	part, _ := impl.LargestPart(g, cells)
	border, _ := impl.BorderOf(g, cells)
	grown, _ := impl.GrowCells(g, cells, 5000)
	above, _ := impl.AboveCells(g, cells)
	return append(lists, slopes, starts, part, border, grown, above)
}

func TestListsOfReleasesAreNewMemory(t *testing.T) {
	for _, g := range goodGrids() {
		for _, cells := range someCellsOf(g) {
			var wholes [3][]int64
			grid, q := g, releaseQuestion{}
			grid.Heights, wholes[0] = withSpare(g.Heights)
			q.cells, wholes[1] = withSpare(cells)
			q.aspects, wholes[2] = withSpare(allAspects())
			before := [3][]int64{slices.Clone(wholes[0]), slices.Clone(wholes[1]), slices.Clone(wholes[2])}
			wanted := listsOfReleases(copyOfGrid(g), slices.Clone(cells), allAspects())
			first, second := listsOfReleases(grid, q.cells, q.aspects), listsOfReleases(grid, q.cells, q.aspects)
			for _, list := range first {
				overwrite(list, -99)
			}
			if !slices.EqualFunc(wholes[:], before[:], slices.Equal) {
				t.Errorf("a result shares memory with %v or %v", g, cells)
			}
			for _, whole := range wholes {
				overwrite(whole, -99)
			}
			if !slices.EqualFunc(second, wanted, slices.Equal) {
				t.Errorf("two results of %v and %v share memory, or one does with them", g, cells)
			}
		}
	}
}

// TestPartsShareNoMemory changes one part after the other, its unused capacity included.
func TestPartsShareNoMemory(t *testing.T) {
	for _, g := range goodGrids() {
		for _, cells := range someCellsOf(g) {
			parts, _ := impl.PartsOf(g, cells)
			for i, part := range parts {
				others := slices.Concat(parts[:i], parts[i+1:])
				before := slices.Concat(others...)
				overwrite(part, -99)
				if !slices.Equal(slices.Concat(others...), before) {
					t.Errorf("two parts of %v share memory", cells)
				}
			}
		}
	}
}
