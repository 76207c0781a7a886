package tests

import (
	"fmt"
	"slices"
	"testing"

	"loop.example/g01013/impl"
)

func TestAreaOf(t *testing.T) {
	for _, g := range goodGrids() {
		for _, cells := range someCellsOf(g) {
			want := int64(0)
			for range cells {
				want += g.Size * g.Size
			}
			got, code := impl.AreaOf(g, cells)
			checkCoded(t, fmt.Sprint("AreaOf ", g, cells), got, code, want, impl.OK)
		}
	}
	for _, known := range []struct {
		rows, columns, size int64
		cells               []int64
		want                int64
	}{
		{1, 1, 1, nil, 0}, {1, 1, 1, []int64{0}, 1}, {1, 1, 100, []int64{0}, 10000}, {3, 3, 10, []int64{0, 1, 8}, 300}, {3, 3, 10, []int64{0, 1}, 200}, {3, 3, 10, []int64{7, 8}, 200}, {1, 8, 7, []int64{0, 7}, 98}, {8, 1, 99, []int64{3, 4, 5}, 29403},
		{8, 8, 100, cellsOf(flatGrid(8, 8, 0)), 640000}, {8, 8, 1, cellsOf(flatGrid(8, 8, 0)), 64}, {8, 8, 100, []int64{}, 0}, {8, 8, 100, []int64{63}, 10000},
	} {
		g := flatGrid(known.rows, known.columns, 5)
		g.Size = known.size
		got, code := impl.AreaOf(g, known.cells)
		checkCoded(t, fmt.Sprint("AreaOf ", known), got, code, known.want, impl.OK)
	}
}

// TestAreasOfPartsMakeUpTheWhole follows from the twelfth promise.
func TestAreasOfPartsMakeUpTheWhole(t *testing.T) {
	for _, g := range goodGrids() {
		for _, cells := range someCellsOf(g) {
			whole, _ := impl.AreaOf(g, cells)
			parts, _ := impl.PartsOf(g, cells)
			for _, part := range parts {
				area, _ := impl.AreaOf(g, part)
				whole -= area
			}
			if whole != 0 {
				t.Errorf("%d square metres of %v are in no part", whole, cells)
			}
		}
	}
}

func borderAsTold(g impl.Grid, cells []int64) []int64 {
	return cellsWhere(g, func(cell int64) bool {
		next := neighboursAsTold(g, cell)
		isOutside := func(other int64) bool { return !slices.Contains(cells, other) }
		return slices.Contains(cells, cell) && (len(next) < 8 || slices.ContainsFunc(next, isOutside))
	})
}

func checkBorder(t *testing.T, g impl.Grid, cells, want []int64) {
	t.Helper()
	got, code := impl.BorderOf(g, cells)
	checkNumbers(t, fmt.Sprint("BorderOf ", g.Rows, g.Columns, cells), got, code, want, impl.OK)
}

func TestBorderOf(t *testing.T) {
	for _, g := range goodGrids() {
		for _, cells := range someCellsOf(g) {
			checkBorder(t, g, cells, borderAsTold(g, cells))
		}
	}
	for _, g := range smallShapes() {
		for _, cells := range allCellsOf(g) {
			checkBorder(t, g, cells, borderAsTold(g, cells))
		}
	}
}

func TestKnownBorders(t *testing.T) {
	small, middle, great := flatGrid(3, 3, 5), flatGrid(5, 5, 5), flatGrid(8, 8, 5)
	checkBorder(t, small, nil, nil)
	checkBorder(t, small, []int64{4}, []int64{4})
	checkBorder(t, small, cellsOf(small), []int64{0, 1, 2, 3, 5, 6, 7, 8})
	checkBorder(t, middle, cellsOf(middle), []int64{0, 1, 2, 3, 4, 5, 9, 10, 14, 15, 19, 20, 21, 22, 23, 24})
	checkBorder(t, middle, []int64{6, 7, 8, 11, 12, 13, 16, 17, 18}, []int64{6, 7, 8, 11, 13, 16, 17, 18})
	// Only the corner 24 is missing, then only the middle, which is next to all inner cells.
	checkBorder(t, middle, cellsOf(middle)[:24], []int64{0, 1, 2, 3, 4, 5, 9, 10, 14, 15, 18, 19, 20, 21, 22, 23})
	checkBorder(t, middle, slices.Delete(cellsOf(middle), 12, 13), slices.Delete(cellsOf(middle), 12, 13))
	checkBorder(t, great, cellsOf(great), []int64{0, 1, 2, 3, 4, 5, 6, 7, 8, 15, 16, 23, 24, 31, 32, 39, 40, 47, 48, 55, 56, 57, 58, 59, 60, 61, 62, 63})
	for _, g := range []impl.Grid{flatGrid(1, 1, 5), flatGrid(1, 8, 5), flatGrid(8, 1, 5), flatGrid(2, 2, 5), flatGrid(2, 8, 5), flatGrid(8, 2, 5)} {
		checkBorder(t, g, cellsOf(g), cellsOf(g))
	}
}

// TestBordersOfAMissingCell takes away one cell next to the middle, or one that is not next to it.
func TestBordersOfAMissingCell(t *testing.T) {
	g := flatGrid(5, 5, 5)
	for _, missing := range cellsOf(g) {
		cells := slices.DeleteFunc(cellsOf(g), func(cell int64) bool { return cell == missing })
		got, code := impl.BorderOf(g, cells)
		want := slices.Contains([]int64{6, 7, 8, 11, 13, 16, 17, 18}, missing)
		if slices.Contains(got, 12) != want || slices.Contains(got, missing) || code != impl.OK {
			t.Errorf("without the cell %d, the border is %v, %d", missing, got, code)
		}
	}
}

func grownAround(g impl.Grid, cells []int64, most int64) []int64 {
	return cellsWhere(g, func(cell int64) bool {
		return slices.Contains(cells, cell) || slices.ContainsFunc(neighboursAsTold(g, cell), func(other int64) bool {
			return slices.Contains(cells, other) && areNear(g.Heights[cell], g.Heights[other], most)
		})
	})
}

func TestGrowCells(t *testing.T) {
	for _, g := range append(goodGrids(), mixedGrids(1)...) {
		for _, cells := range someCellsOf(g) {
			for _, most := range []int64{0, 1, 2, 10, 50, 4999, 5000} {
				got, code := impl.GrowCells(g, cells, most)
				checkNumbers(t, fmt.Sprint("GrowCells ", g, cells, most), got, code, grownAround(g, cells, most), impl.OK)
			}
		}
	}
}

func TestKnownGrownCells(t *testing.T) {
	bowl, row := "3,3,10:100,100,100,90,80,90,70,60,75", "1,8,10:10,10,10,12,15,15,10,0"
	for _, known := range []struct {
		text  string
		cells []int64
		most  int64
		want  []int64
	}{
		{text: bowl, most: 5000}, {text: bowl, cells: []int64{7}, most: 0, want: []int64{7}}, {text: bowl, cells: []int64{7}, most: 9, want: []int64{7}}, {text: bowl, cells: []int64{7}, most: 10, want: []int64{6, 7}}, {text: bowl, cells: []int64{7}, most: 14, want: []int64{6, 7}}, {text: bowl, cells: []int64{7}, most: 15, want: []int64{6, 7, 8}}, {text: bowl, cells: []int64{7}, most: 19, want: []int64{6, 7, 8}}, {text: bowl, cells: []int64{7}, most: 20, want: []int64{4, 6, 7, 8}}, {text: bowl, cells: []int64{7}, most: 29, want: []int64{4, 6, 7, 8}}, {text: bowl, cells: []int64{7}, most: 30, want: []int64{3, 4, 5, 6, 7, 8}}, {text: bowl, cells: []int64{7}, most: 5000, want: []int64{3, 4, 5, 6, 7, 8}},
		// Lower and higher cells count alike, and corners as well.
		{text: bowl, cells: []int64{4}, most: 10, want: []int64{3, 4, 5, 6, 8}}, {text: bowl, cells: []int64{4}, most: 9, want: []int64{4, 8}}, {text: bowl, cells: []int64{4}, most: 4, want: []int64{4}}, {text: bowl, cells: []int64{4}, most: 20, want: []int64{0, 1, 2, 3, 4, 5, 6, 7, 8}}, {text: bowl, cells: []int64{0}, most: 20, want: []int64{0, 1, 3, 4}}, {text: bowl, cells: []int64{0}, most: 19, want: []int64{0, 1, 3}}, {text: bowl, cells: []int64{0}, most: 0, want: []int64{0, 1}},
		// Cells grow only once, and not round the end of a row.
		{text: row, cells: []int64{0}, most: 0, want: []int64{0, 1}}, {text: row, cells: []int64{1}, most: 0, want: []int64{0, 1, 2}}, {text: row, cells: []int64{2}, most: 1, want: []int64{1, 2}}, {text: row, cells: []int64{2}, most: 2, want: []int64{1, 2, 3}}, {text: row, cells: []int64{2}, most: 5000, want: []int64{1, 2, 3}}, {text: "3,3,1:5,5,5,5,5,5,5,5,5", cells: []int64{2}, most: 0, want: []int64{1, 2, 4, 5}}, {text: "3,3,1:5,5,5,5,5,5,5,5,5", cells: []int64{3}, most: 5000, want: []int64{0, 1, 3, 4, 6, 7}},
		// A cell is near one of two cells, and not near the other one.
		{text: "1,3,1:0,10,12", cells: []int64{0, 2}, most: 2, want: []int64{0, 1, 2}}, {text: "1,3,1:12,10,0", cells: []int64{0, 2}, most: 2, want: []int64{0, 1, 2}}, {text: "1,3,1:0,10,20", cells: []int64{0, 2}, most: 9, want: []int64{0, 2}}, {text: "1,3,1:0,10,20", cells: []int64{0, 2}, most: 10, want: []int64{0, 1, 2}},
		// The greatest difference.
		{text: "1,2,1:0,5000", cells: []int64{0}, most: 5000, want: []int64{0, 1}}, {text: "1,2,1:0,5000", cells: []int64{1}, most: 5000, want: []int64{0, 1}}, {text: "1,2,1:0,5000", cells: []int64{0}, most: 4999, want: []int64{0}}, {text: "1,2,1:0,5000", cells: []int64{1}, most: 4999, want: []int64{1}}, {text: "1,1,1:7", cells: []int64{0}, most: 0, want: []int64{0}}, {text: "2,1,1:7,8", cells: []int64{0, 1}, most: 0, want: []int64{0, 1}},
	} {
		got, code := impl.GrowCells(gridFrom(t, known.text), known.cells, known.most)
		checkNumbers(t, fmt.Sprint("GrowCells ", known.text, known.cells, known.most), got, code, known.want, impl.OK)
	}
}
