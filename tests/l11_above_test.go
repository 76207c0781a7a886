package tests

import (
	"fmt"
	"slices"
	"testing"

	"loop.example/g01013/impl"
)

// aboveAsTold returns the cells above others of a grid whose descents are known.
func aboveAsTold(g impl.Grid, descents [][]int64, cells []int64) []int64 {
	return cellsWhere(g, func(cell int64) bool {
		isOneOfThese := func(passed int64) bool { return slices.Contains(cells, passed) }
		return !isOneOfThese(cell) && slices.ContainsFunc(descents[cell], isOneOfThese)
	})
}

func TestAboveCells(t *testing.T) {
	above := 0
	for _, g := range append(goodGrids(), mixedGrids(2)...) {
		descents := [][]int64{}
		for _, cell := range cellsOf(g) {
			descents = append(descents, descentAsTold(g, cell))
		}
		pits, _ := impl.PitsOf(g)
		peaks, _ := impl.PeaksOf(g)
		for _, cells := range append(someCellsOf(g), pits, peaks) {
			want := aboveAsTold(g, descents, cells)
			got, code := impl.AboveCells(g, cells)
			checkNumbers(t, fmt.Sprint("AboveCells ", g, cells), got, code, want, impl.OK)
			above += len(want)
		}
	}
	if above < 1000 {
		t.Errorf("only %d cells are above others", above)
	}
}

// TestAllCellsAreAbovePits is so because each descent falls to a pit.
func TestAllCellsAreAbovePits(t *testing.T) {
	for _, g := range goodGrids() {
		pits, _ := impl.PitsOf(g)
		above, code := impl.AboveCells(g, pits)
		all := slices.Concat(pits, above)
		slices.Sort(all)
		checkNumbers(t, fmt.Sprint("the pits and what is above them in ", g), all, code, cellsOf(g), impl.OK)
	}
}

func TestKnownCellsAbove(t *testing.T) {
	// The way down goes from both ends to the cell 4, but for a pit at the cell 1.
	row := "1,8,10:9,6,8,5,1,3,4,7"
	bowl := "3,3,10:100,100,100,90,80,90,70,60,75"
	for _, known := range []struct {
		text        string
		cells, want []int64
	}{
		{row, nil, nil}, {row, []int64{}, nil}, {row, cellsOf(flatGrid(1, 8, 0)), nil},
		// The descents of 0 and 1 end before the cells from 2 on; those of 2 and 3 go on to 4.
		{row, []int64{4}, []int64{2, 3, 5, 6, 7}}, {row, []int64{1}, []int64{0}}, {row, []int64{0}, nil}, {row, []int64{3}, []int64{2}}, {row, []int64{2}, nil}, {row, []int64{5}, []int64{6, 7}}, {row, []int64{6}, []int64{7}}, {row, []int64{7}, nil},
		// A descent that goes through one cell and ends in another one; cells that are above others of them are left out.
		{row, []int64{5, 6}, []int64{7}}, {row, []int64{4, 6}, []int64{2, 3, 5, 7}}, {row, []int64{4, 5, 6}, []int64{2, 3, 7}}, {row, []int64{1, 4}, []int64{0, 2, 3, 5, 6, 7}}, {row, []int64{1, 2, 3}, []int64{0}}, {row, []int64{0, 7}, nil}, {row, []int64{1, 7}, []int64{0}},
		{bowl, []int64{7}, []int64{0, 1, 2, 3, 4, 5, 6, 8}}, {bowl, []int64{8}, nil}, {bowl, []int64{4}, []int64{0, 1, 2}}, {bowl, []int64{4, 7}, []int64{0, 1, 2, 3, 5, 6, 8}}, {bowl, []int64{0, 1, 2}, nil}, {bowl, []int64{3, 5, 6, 8}, nil}, {bowl, []int64{0, 1, 2, 3, 4, 5, 6, 8}, nil},
		{"1,1,1:0", []int64{0}, nil}, {"1,1,1:0", nil, nil}, {"2,2,1:5,5,5,5", []int64{0}, nil}, {"2,2,1:5,5,5,4", []int64{3}, []int64{0, 1, 2}}, {"8,1,10:9,6,8,5,1,3,4,7", []int64{4}, []int64{2, 3, 5, 6, 7}},
		// A cell whose neighbour is one of these, but whose descent goes another way.
		{"1,3,10:5,6,0", []int64{0}, nil}, {"1,3,10:5,6,0", []int64{2}, []int64{1}}, {"2,3,10:9,9,9,5,9,0", []int64{3}, []int64{0}}, {"2,3,10:9,9,9,5,9,0", []int64{5}, []int64{1, 2, 4}},
	} {
		got, code := impl.AboveCells(gridFrom(t, known.text), known.cells)
		checkNumbers(t, fmt.Sprint("AboveCells ", known.text, known.cells), got, code, known.want, impl.OK)
	}
}
