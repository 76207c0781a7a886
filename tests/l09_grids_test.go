package tests

import (
	"fmt"
	"math/rand/v2"
	"slices"
	"testing"

	"loop.example/g01013/impl"
)

func gridOf(rows, columns, size int64, heights ...int64) impl.Grid {
	return impl.Grid{Rows: rows, Columns: columns, Size: size, Heights: heights}
}

// flatGrid has the same height in all cells.
func flatGrid(rows, columns, height int64) impl.Grid {
	return gridOf(rows, columns, 10, repeated(height, int(rows*columns))...)
}

// gridFrom reads a grid that must be valid.
func gridFrom(t *testing.T, text string) impl.Grid {
	t.Helper()
	g, ok := impl.ReadGrid(text)
	if !ok {
		t.Fatalf("no grid: %q", text)
	}
	return g
}

// gridsEqual reports whether two grids are deeply equal; a nil slice and an empty one are equivalent.
func gridsEqual(a, b impl.Grid) bool {
	return a.Rows == b.Rows && a.Columns == b.Columns && a.Size == b.Size && slices.Equal(a.Heights, b.Heights)
}

// mixedGrid returns a grid whose heights are often equal, or one of their limits.
func mixedGrid(mix *rand.Rand, rows, columns int64) impl.Grid {
	g := flatGrid(rows, columns, 0)
	g.Size = []int64{1, 10, 16, 64, 100, mix.Int64N(100) + 1}[mix.IntN(6)]
	// With few heights there are plateaus and slopes that are as steep.
	least, heights := int64(0), []int64{2, 3, 12, 200, impl.MaxAlt + 1}[mix.IntN(5)]
	if heights <= impl.MaxAlt {
		least = mix.Int64N(impl.MaxAlt + 2 - heights)
	}
	for cell := range g.Heights {
		g.Heights[cell] = least + mix.Int64N(heights)
	}
	return g
}

// mixedGrids holds grids that are always the same, so many of each number of rows and columns.
func mixedGrids(count int) []impl.Grid {
	mix := rand.New(rand.NewPCG(9, 2026))
	grids := []impl.Grid{}
	for rows := int64(1); rows <= impl.MaxSide; rows++ {
		for columns := int64(1); columns <= impl.MaxSide; columns++ {
			for range count {
				grids = append(grids, mixedGrid(mix, rows, columns))
			}
		}
	}
	return grids
}

// goodGrids holds valid grids, from one cell to as many as may be.
func goodGrids() []impl.Grid {
	return append([]impl.Grid{
		gridOf(1, 1, 1, 0), gridOf(1, 1, 100, 5000), gridOf(1, 2, 10, 5, 0), gridOf(2, 1, 10, 5, 0), gridOf(2, 2, 16, 3, 1, 2, 0), gridOf(3, 3, 10, 100, 100, 100, 90, 80, 90, 70, 60, 75),
		gridOf(1, 8, 7, 8, 7, 6, 5, 4, 3, 2, 1), gridOf(8, 1, 7, 1, 2, 3, 4, 5, 6, 7, 8), flatGrid(8, 8, 0), flatGrid(8, 8, 5000), flatGrid(1, 8, 1), flatGrid(8, 1, 4999), flatGrid(3, 5, 2500),
	}, mixedGrids(2)...)
}

// badGrids holds grids whose sides, size, number of heights or heights are not as they must be.
func badGrids() []impl.Grid {
	grids := []impl.Grid{
		{}, {Rows: 1, Columns: 1, Size: 1}, gridOf(1, 1, 1, 0, 0), gridOf(2, 3, 1, 1, 2, 3, 4, 5), gridOf(2, 3, 1, 1, 2, 3, 4, 5, 6, 7), gridOf(8, 8, 1, repeated(0, 63)...), gridOf(8, 8, 1, repeated(0, 65)...), gridOf(1, 1, 1, repeated(0, 5000)...),
		// The number of heights is that of the cells, or what the product of the sides overflows to.
		flatGrid(9, 1, 0), flatGrid(1, 9, 0), flatGrid(9, 9, 0), flatGrid(16, 4, 0), flatGrid(4, 16, 0), gridOf(-1, -1, 1, 0), gridOf(-2, -3, 1, repeated(0, 6)...), gridOf(0, 0, 1), gridOf(0, 5, 1), gridOf(5, 0, 1), gridOf(0, 0, 0),
		gridOf(1<<32, 1<<32, 1), gridOf(1<<62, 4, 1), gridOf(4, 1<<62, 1), gridOf(1<<61+1, 8, 1, repeated(0, 8)...), gridOf(8, 1<<61+1, 1, repeated(0, 8)...), gridOf(-1<<61+1, 8, 1, repeated(0, 8)...),
	}
	for _, n := range append(otherNumbers(), -1, 0, 101) {
		grids = append(grids, gridOf(1, 1, n, 0), gridOf(2, 2, n, 1, 2, 3, 4), gridOf(8, 8, n, repeated(0, 64)...))
	}
	for _, side := range append(otherNumbers(), -1, 0, 9) {
		grids = append(grids, gridOf(side, 1, 1, 0), gridOf(1, side, 1, 0), gridOf(side, side, 1, 0), gridOf(side, 1, 1), gridOf(1, side, 1))
	}
	for _, height := range append(otherNumbers(), -1, impl.MaxAlt+1) {
		grids = append(grids, gridOf(1, 1, 1, height), gridOf(1, 3, 1, height, 0, 0), gridOf(3, 1, 1, 0, height, 0), gridOf(2, 2, 1, 5, 5, 5, height), gridOf(8, 8, 1, append(repeated(0, 63), height)...), gridOf(8, 8, 1, repeated(height, 64)...))
	}
	return grids
}

// wayTo says where a cell lies as seen from another one, in rows to the south and columns to the east.
func wayTo(g impl.Grid, from, to int64) [2]int64 {
	return [2]int64{to/g.Columns - from/g.Columns, to%g.Columns - from%g.Columns}
}

// directionAsTold returns the direction from a cell to another one, and whether they are next to each other.
func directionAsTold(g impl.Grid, from, to int64) (int64, bool) {
	direction, exists := map[[2]int64]int64{{-1, 0}: 0, {-1, 1}: 1, {0, 1}: 2, {1, 1}: 3, {1, 0}: 4, {1, -1}: 5, {0, -1}: 6, {-1, -1}: 7}[wayTo(g, from, to)]
	return direction, exists
}

func cellsOf(g impl.Grid) []int64 {
	cells := []int64{}
	for cell := range int64(len(g.Heights)) {
		cells = append(cells, cell)
	}
	return cells
}

func neighboursAsTold(g impl.Grid, cell int64) []int64 {
	return slices.DeleteFunc(cellsOf(g), func(other int64) bool {
		_, isNext := directionAsTold(g, cell, other)
		return !isNext
	})
}

func TestConstantsOfTerrain(t *testing.T) {
	if impl.MaxSide != 8 || impl.MaxCell != 100 || impl.MaxAlt != 5000 || impl.Aspects != 8 {
		t.Error(impl.MaxSide, impl.MaxCell, impl.MaxAlt, impl.Aspects)
	}
}

func TestValidGrid(t *testing.T) {
	for _, g := range goodGrids() {
		if !impl.ValidGrid(g) {
			t.Errorf("ValidGrid(%v) = false", g)
		}
	}
	for _, g := range badGrids() {
		if impl.ValidGrid(g) {
			t.Errorf("ValidGrid(%v) = true", g)
		}
	}
}

func TestValidGridOfEachShape(t *testing.T) {
	for rows := int64(-2); rows <= 10; rows++ {
		for columns := int64(-2); columns <= 10; columns++ {
			for count := range int64(103) {
				want := rows >= 1 && rows <= 8 && columns >= 1 && columns <= 8 && count == rows*columns
				if got := impl.ValidGrid(gridOf(rows, columns, 1, repeated(1, int(count))...)); got != want {
					t.Errorf("ValidGrid of %d rows, %d columns and %d heights = %v", rows, columns, count, got)
				}
			}
		}
	}
}

func TestValidGridOfEachSizeAndHeight(t *testing.T) {
	for size := int64(-3); size <= 105; size++ {
		if got := impl.ValidGrid(gridOf(2, 2, size, 1, 2, 3, 4)); got != (size >= 1 && size <= 100) {
			t.Errorf("ValidGrid with the size %d = %v", size, got)
		}
	}
	for cell := range 6 {
		for _, height := range append(otherNumbers(), -2, -1, 0, 1, 4999, 5000, 5001) {
			g := flatGrid(2, 3, 10)
			g.Heights[cell] = height
			if got := impl.ValidGrid(g); got != (height >= 0 && height <= 5000) {
				t.Errorf("ValidGrid(%v) = %v", g, got)
			}
		}
	}
}

func TestCellAt(t *testing.T) {
	for _, g := range goodGrids() {
		next := int64(0)
		for row := int64(-2); row <= 9; row++ {
			for column := int64(-2); column <= 9; column++ {
				want, wanted := int64(0), int64(impl.ErrRange)
				if row >= 0 && row < g.Rows && column >= 0 && column < g.Columns {
					want, wanted = next, impl.OK
					next++
				}
				got, code := impl.CellAt(g, row, column)
				checkCoded(t, fmt.Sprint("CellAt of ", g, row, column), got, code, want, wanted)
			}
		}
		if next != g.Rows*g.Columns {
			t.Errorf("%v has %d cells", g, next)
		}
	}
}

func TestNeighboursOf(t *testing.T) {
	for _, g := range goodGrids() {
		for _, cell := range cellsOf(g) {
			got, code := impl.NeighboursOf(g, cell)
			checkNumbers(t, fmt.Sprint("NeighboursOf ", g, cell), got, code, neighboursAsTold(g, cell), impl.OK)
		}
	}
}

func TestKnownNeighbours(t *testing.T) {
	for _, known := range []struct {
		rows, columns, cell int64
		want                []int64
	}{
		{1, 1, 0, nil}, {1, 2, 0, []int64{1}}, {1, 2, 1, []int64{0}}, {2, 1, 0, []int64{1}}, {1, 8, 0, []int64{1}}, {1, 8, 3, []int64{2, 4}}, {1, 8, 7, []int64{6}}, {8, 1, 0, []int64{1}}, {8, 1, 4, []int64{3, 5}}, {8, 1, 7, []int64{6}}, {2, 2, 0, []int64{1, 2, 3}}, {2, 2, 3, []int64{0, 1, 2}},
		// The corners, the edges and the middle.
		{3, 4, 0, []int64{1, 4, 5}}, {3, 4, 3, []int64{2, 6, 7}}, {3, 4, 8, []int64{4, 5, 9}}, {3, 4, 11, []int64{6, 7, 10}}, {3, 4, 1, []int64{0, 2, 4, 5, 6}}, {3, 4, 4, []int64{0, 1, 5, 8, 9}}, {3, 4, 7, []int64{2, 3, 6, 10, 11}}, {3, 4, 10, []int64{5, 6, 7, 9, 11}},
		{3, 4, 5, []int64{0, 1, 2, 4, 6, 8, 9, 10}}, {3, 4, 6, []int64{1, 2, 3, 5, 7, 9, 10, 11}}, {8, 8, 0, []int64{1, 8, 9}}, {8, 8, 7, []int64{6, 14, 15}}, {8, 8, 8, []int64{0, 1, 9, 16, 17}}, {8, 8, 15, []int64{6, 7, 14, 22, 23}}, {8, 8, 27, []int64{18, 19, 20, 26, 28, 34, 35, 36}}, {8, 8, 56, []int64{48, 49, 57}}, {8, 8, 63, []int64{54, 55, 62}},
	} {
		got, code := impl.NeighboursOf(flatGrid(known.rows, known.columns, 7), known.cell)
		checkNumbers(t, fmt.Sprint("NeighboursOf ", known.rows, known.columns, known.cell), got, code, known.want, impl.OK)
	}
}

func TestCurvatureAt(t *testing.T) {
	for _, g := range goodGrids() {
		for _, cell := range cellsOf(g) {
			want := int64(0)
			for _, other := range neighboursAsTold(g, cell) {
				want += g.Heights[other] - g.Heights[cell]
			}
			got, code := impl.CurvatureAt(g, cell)
			checkCoded(t, fmt.Sprint("CurvatureAt of ", g, cell), got, code, want, impl.OK)
		}
	}
	for _, known := range []struct {
		text       string
		cell, want int64
	}{
		{"1,1,1:0", 0, 0}, {"1,1,100:5000", 0, 0}, {"1,2,1:3,7", 0, 4}, {"1,2,1:3,7", 1, -4}, {"2,1,9:3,7", 1, -4}, {"2,2,5:1,20,300,4000", 0, 4317}, {"2,2,5:1,20,300,4000", 3, -11679}, {"3,3,10:100,100,100,90,80,90,70,60,75", 4, 45}, {"3,3,1:5000,5000,5000,5000,0,5000,5000,5000,5000", 4, 40000}, {"3,3,1:0,0,0,0,5000,0,0,0,0", 4, -40000}, {"3,3,1:0,0,0,0,5000,0,0,0,0", 0, 5000},
	} {
		got, code := impl.CurvatureAt(gridFrom(t, known.text), known.cell)
		checkCoded(t, fmt.Sprint("CurvatureAt of ", known.text, known.cell), got, code, known.want, impl.OK)
	}
}

func TestAspectName(t *testing.T) {
	for aspect, want := range []string{"N", "NE", "E", "SE", "S", "SW", "W", "NW"} {
		if got := impl.AspectName(int64(aspect)); got != want {
			t.Errorf("AspectName(%d) = %q, want %q", aspect, got, want)
		}
	}
	for _, aspect := range append(otherNumbers(), -8, -2, -1, 8, 9, 15, 16, 1<<32+1) {
		if got := impl.AspectName(aspect); got != "" {
			t.Errorf("AspectName(%d) = %q", aspect, got)
		}
	}
}
