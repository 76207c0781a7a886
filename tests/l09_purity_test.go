package tests

import (
	"reflect"
	"slices"
	"strings"
	"testing"

	"loop.example/g01013/impl"
)

// Each function has exactly the type that chapter 9 gives.
var (
	_ func(impl.Grid) bool                         = impl.ValidGrid
	_ func(impl.Grid, int64, int64) (int64, int64) = impl.CellAt
	_ func(impl.Grid, int64) ([]int64, int64)      = impl.NeighboursOf
	_ func(impl.Grid, int64, int64) (int64, int64) = impl.SlopeTo
	_ func(impl.Grid, int64) (int64, int64, int64) = impl.SteepestOf
	_ func(impl.Grid, int64) (int64, int64)        = impl.AspectOf
	_ func(impl.Grid, int64) (int64, int64)        = impl.CurvatureAt
	_ func(impl.Grid, int64) ([]int64, int64)      = impl.DescentOf
	_ func(impl.Grid) ([]int64, int64)             = impl.PeaksOf
	_ func(impl.Grid) ([]int64, int64)             = impl.PitsOf
	_ func(int64) string                           = impl.AspectName
	_ func(impl.Grid) string                       = impl.GridText
	_ func(string) (impl.Grid, bool)               = impl.ReadGrid
	_                                              = struct {
		Rows, Columns, Size int64
		Heights             []int64
	}(impl.Grid{})
)

// gridResults holds the results of all functions of chapter 9 that take a grid.
func gridResults(g impl.Grid, q gridQuestion) []any {
	results := []any{impl.ValidGrid(g), impl.GridText(g), impl.AspectName(q.cell)}
	for _, f := range gridFunctions() {
		answers, code := f.call(g, q)
		results = append(results, answers, code)
	}
	return results
}

// copyOfGrid returns a grid with heights of its own.
func copyOfGrid(g impl.Grid) impl.Grid {
	return gridOf(g.Rows, g.Columns, g.Size, slices.Clone(g.Heights)...)
}

// checkEqualGrids checks that equal arguments give equal results.
func checkEqualGrids(t *testing.T, g impl.Grid, q gridQuestion) {
	t.Helper()
	first, second := gridResults(g, q), gridResults(copyOfGrid(g), q)
	if !reflect.DeepEqual(first, second) {
		t.Errorf("%v and %v: %v, then %v", g, q, first, second)
	}
}

func TestGridsStayAsTheyWere(t *testing.T) {
	for _, g := range append(goodGrids(), badGrids()...) {
		for n := range int64(12) {
			// Spare heights behind those of the grid show a change of their unused capacity.
			whole := slices.Concat(g.Heights, []int64{41, 42, 43})
			before := slices.Clone(whole)
			part := gridOf(g.Rows, g.Columns, g.Size, whole[:len(g.Heights)]...)
			checkEqualGrids(t, part, gridQuestion{row: n, column: n, cell: n, to: n + 1})
			if !slices.Equal(whole, before) {
				t.Errorf("%v was changed", g)
			}
		}
	}
}

func TestGridsReturnForOddNumbers(t *testing.T) {
	numbers := append(append(oddNumbers(), otherNumbers()...), 3, 4, 5, 6, 63, 64)
	for _, g := range []impl.Grid{{}, {Rows: 1, Columns: 1, Size: 1}, gridOf(1, 1, 1, 0), answeredGrid(), flatGrid(8, 8, 5000), gridOf(2, 2, 1, 1, 2, 3)} {
		for _, a := range numbers {
			for _, b := range numbers {
				checkEqualGrids(t, g, gridQuestion{row: a, column: b, cell: a, to: b})
			}
		}
	}
}

func TestOddGridsReturn(t *testing.T) {
	for _, a := range oddNumbers() {
		for _, b := range oddNumbers() {
			for _, heights := range oddLists() {
				checkEqualGrids(t, gridOf(a, b, 1, heights...), gridQuestion{to: 1})
				checkEqualGrids(t, gridOf(1, a, b, heights...), gridQuestion{to: 1})
			}
			checkEqualGrids(t, gridOf(1, 2, 10, a, b), gridQuestion{to: 1})
		}
	}
}

func TestReadGridReturnsForOddTexts(t *testing.T) {
	for _, s := range append(oddTexts(), "1,1,1:0", "2,1,10:7,3", strings.Repeat("1,1,1:0 ", 10000), strings.Repeat("\xff:", 100000)) {
		first, isFirst := impl.ReadGrid(s)
		second, isSecond := impl.ReadGrid(strings.Clone(s))
		if !gridsEqual(first, second) || isFirst != isSecond {
			t.Errorf("ReadGrid(%.20q) = %v, %v, then %v, %v", s, first, isFirst, second, isSecond)
		}
	}
}

// listsOfGrid holds all lists that the functions of chapter 9 make from a grid.
func listsOfGrid(g impl.Grid) [][]int64 {
	peaks, _ := impl.PeaksOf(g)
	pits, _ := impl.PitsOf(g)
	lists := [][]int64{peaks, pits}
	for _, cell := range cellsOf(g) {
		next, _ := impl.NeighboursOf(g, cell)
		descent, _ := impl.DescentOf(g, cell)
		lists = append(lists, next, descent)
	}
	return lists
}

func TestListsOfGridsAreNewMemory(t *testing.T) {
	for _, g := range goodGrids() {
		heights := slices.Concat(g.Heights, []int64{41, 42, 43})
		before := slices.Clone(heights)
		part := gridOf(g.Rows, g.Columns, g.Size, heights[:len(g.Heights)]...)
		first, second, wanted := listsOfGrid(part), listsOfGrid(part), listsOfGrid(copyOfGrid(g))
		for _, list := range first {
			overwrite(list[:cap(list)], -99)
		}
		if !slices.Equal(heights, before) {
			t.Errorf("a result shares memory with %v", g)
		}
		overwrite(heights, -99)
		if !slices.EqualFunc(second, wanted, slices.Equal) {
			t.Errorf("two results of %v share memory, or one does with it", g)
		}
	}
}

func TestReadGridsAreNewMemory(t *testing.T) {
	for _, g := range goodGrids() {
		text := gridAsTold(g)
		first, _ := impl.ReadGrid(text)
		second, _ := impl.ReadGrid(text)
		overwrite(first.Heights[:cap(first.Heights)], -99)
		if !gridsEqual(second, g) {
			t.Errorf("two results of ReadGrid(%q) share memory", text)
		}
	}
}
