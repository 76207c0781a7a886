package tests

import (
	"reflect"
	"slices"
	"testing"

	"loop.example/g01013/impl"
)

// gridQuestion holds all numbers that functions of chapter 9 take beside a grid.
type gridQuestion struct{ row, column, cell, to int64 }

// gridFunction answers a question about a grid; takes holds the names of the numbers that count for it.
type gridFunction struct {
	name  string
	takes []string
	call  func(impl.Grid, gridQuestion) ([]any, int64)
}

func gridQuestionFields(g impl.Grid) []numberField[gridQuestion] {
	last := int64(len(g.Heights)) - 1
	return []numberField[gridQuestion]{
		{"row", func(q *gridQuestion) *int64 { return &q.row }, 0, g.Rows - 1},
		{"column", func(q *gridQuestion) *int64 { return &q.column }, 0, g.Columns - 1},
		{"cell", func(q *gridQuestion) *int64 { return &q.cell }, 0, last},
		{"to", func(q *gridQuestion) *int64 { return &q.to }, 0, last},
	}
}

func gridFunctions() []gridFunction {
	return []gridFunction{
		{"CellAt", []string{"row", "column"}, func(g impl.Grid, q gridQuestion) ([]any, int64) {
			cell, code := impl.CellAt(g, q.row, q.column)
			return []any{cell}, code
		}},
		{"NeighboursOf", []string{"cell"}, func(g impl.Grid, q gridQuestion) ([]any, int64) {
			cells, code := impl.NeighboursOf(g, q.cell)
			return []any{cells}, code
		}},
		{"SlopeTo", []string{"cell", "to"}, func(g impl.Grid, q gridQuestion) ([]any, int64) {
			slope, code := impl.SlopeTo(g, q.cell, q.to)
			return []any{slope}, code
		}},
		{"SteepestOf", []string{"cell"}, func(g impl.Grid, q gridQuestion) ([]any, int64) {
			slope, to, code := impl.SteepestOf(g, q.cell)
			return []any{slope, to}, code
		}},
		{"AspectOf", []string{"cell"}, func(g impl.Grid, q gridQuestion) ([]any, int64) {
			aspect, code := impl.AspectOf(g, q.cell)
			return []any{aspect}, code
		}},
		{"CurvatureAt", []string{"cell"}, func(g impl.Grid, q gridQuestion) ([]any, int64) {
			curvature, code := impl.CurvatureAt(g, q.cell)
			return []any{curvature}, code
		}},
		{"DescentOf", []string{"cell"}, func(g impl.Grid, q gridQuestion) ([]any, int64) {
			descent, code := impl.DescentOf(g, q.cell)
			return []any{descent}, code
		}},
		{"PeaksOf", nil, func(g impl.Grid, _ gridQuestion) ([]any, int64) {
			peaks, code := impl.PeaksOf(g)
			return []any{peaks}, code
		}},
		{"PitsOf", nil, func(g impl.Grid, _ gridQuestion) ([]any, int64) {
			pits, code := impl.PitsOf(g)
			return []any{pits}, code
		}},
	}
}

// answeredGrid is one for which each function has an answer to the question answeredCells.
func answeredGrid() impl.Grid { return gridOf(2, 3, 10, 9, 7, 5, 8, 6, 4) }

func answeredCells() gridQuestion { return gridQuestion{row: 1, column: 1, cell: 4, to: 5} }

// checkNoTerrain checks that a question has no answer but a code.
func checkNoTerrain(t *testing.T, f gridFunction, g impl.Grid, q gridQuestion, wanted int64) {
	t.Helper()
	results, code := f.call(g, q)
	if code != wanted || slices.ContainsFunc(results, func(x any) bool { return !isNothing(x) }) {
		t.Errorf("%s of %v and %v = %v, %d, want %d", f.name, g, q, results, code, wanted)
	}
}

func TestGridFunctionsAtTheirLimits(t *testing.T) {
	for _, f := range gridFunctions() {
		if results, code := f.call(answeredGrid(), answeredCells()); code != impl.OK || slices.ContainsFunc(results, isNothing) {
			t.Errorf("%s = %v, %d", f.name, results, code)
		}
		for _, g := range []impl.Grid{answeredGrid(), flatGrid(1, 1, 5), flatGrid(1, 8, 5), flatGrid(8, 1, 5), flatGrid(8, 8, 5)} {
			for _, field := range gridQuestionFields(g) {
				for _, n := range []int64{field.least, field.greatest} {
					results, code := f.call(g, withField(gridQuestion{}, field, n))
					if code == impl.ErrInvalid || code == impl.ErrRange {
						t.Errorf("%s of %v with the %s %d = %v, %d", f.name, g, field.name, n, results, code)
					}
				}
			}
		}
	}
}

func TestGridFunctionsOutOfRange(t *testing.T) {
	// In a flat grid nothing leads down, and no cell is next to itself: the wrong numbers still come first.
	for _, g := range []impl.Grid{answeredGrid(), flatGrid(1, 1, 5), flatGrid(1, 8, 5), flatGrid(8, 1, 5), flatGrid(8, 8, 5)} {
		for _, f := range gridFunctions() {
			for _, field := range gridQuestionFields(g) {
				for _, n := range append(otherNumbers(), field.least-1, field.greatest+1) {
					if !slices.Contains(f.takes, field.name) {
						continue
					}
					checkNoTerrain(t, f, g, withField(gridQuestion{}, field, n), impl.ErrRange)
					checkNoTerrain(t, f, g, gridQuestion{row: n, column: n, cell: n, to: n}, impl.ErrRange)
				}
			}
		}
	}
	// A column that is too great is not one of the next row.
	for _, at := range [][2]int64{{0, 3}, {1, -1}, {1, 3}, {2, 0}, {-1, 0}, {0, -1}, {-1, 5}, {2, -3}} {
		got, code := impl.CellAt(answeredGrid(), at[0], at[1])
		checkCoded(t, "CellAt", got, code, 0, impl.ErrRange)
	}
}

// TestGridFunctionsLeaveOutOtherNumbers changes the numbers that a function does not take.
func TestGridFunctionsLeaveOutOtherNumbers(t *testing.T) {
	for _, f := range gridFunctions() {
		want, _ := f.call(answeredGrid(), answeredCells())
		for _, field := range gridQuestionFields(answeredGrid()) {
			got, code := f.call(answeredGrid(), withField(answeredCells(), field, -1))
			if !slices.Contains(f.takes, field.name) && (!reflect.DeepEqual(got, want) || code != impl.OK) {
				t.Errorf("%s with another %s = %v, %d, want %v", f.name, field.name, got, code, want)
			}
		}
	}
}

// TestGridFunctionsOfBadGrids has good and wrong numbers: what is not valid comes first.
func TestGridFunctionsOfBadGrids(t *testing.T) {
	for _, g := range badGrids() {
		for _, f := range gridFunctions() {
			for _, n := range []int64{-1, 0, 1, int64(len(g.Heights)), 1 << 40} {
				checkNoTerrain(t, f, g, gridQuestion{row: n, column: n, cell: n, to: n}, impl.ErrInvalid)
			}
			checkNoTerrain(t, f, g, gridQuestion{row: 0, column: 0, cell: 0, to: 1}, impl.ErrInvalid)
		}
	}
}

// TestRangeOfCellsComesBeforeState asks for slopes to cells that are not next to each other, one of which is none.
func TestRangeOfCellsComesBeforeState(t *testing.T) {
	for _, cells := range [][2]int64{{-1, -1}, {-1, 0}, {0, -1}, {6, 6}, {6, 5}, {5, 6}, {0, 6}, {1 << 40, 0}, {0, 1 << 40}, {1 << 40, 1 << 40}} {
		got, code := impl.SlopeTo(answeredGrid(), cells[0], cells[1])
		checkCoded(t, "SlopeTo", got, code, 0, impl.ErrRange)
	}
	got, code := impl.SlopeTo(answeredGrid(), 0, 5)
	checkCoded(t, "SlopeTo", got, code, 0, impl.ErrState)
}
