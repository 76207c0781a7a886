package tests

import (
	"fmt"
	"testing"

	"loop.example/g01013/impl"
)

// slopeAsTold returns the slope of a fall in a direction.
func slopeAsTold(direction, fall, size int64) int64 {
	if direction == 1 || direction == 3 || direction == 5 || direction == 7 {
		return roundedQuotient(1000000*fall, 1414*size).Int64()
	}
	return roundedQuotient(1000*fall, size).Int64()
}

func checkSlopes(t *testing.T, g impl.Grid) {
	t.Helper()
	for _, from := range cellsOf(g) {
		for _, to := range cellsOf(g) {
			want, wanted := int64(0), int64(impl.ErrState)
			if direction, isNext := directionAsTold(g, from, to); isNext {
				want, wanted = slopeAsTold(direction, g.Heights[from]-g.Heights[to], g.Size), impl.OK
			}
			got, code := impl.SlopeTo(g, from, to)
			checkCoded(t, fmt.Sprint("SlopeTo of ", g, from, to), got, code, want, wanted)
		}
	}
}

func TestSlopeTo(t *testing.T) {
	for _, g := range goodGrids() {
		checkSlopes(t, g)
	}
}

// TestSlopesSeenFromTheOtherEnd is the first half of the tenth promise.
func TestSlopesSeenFromTheOtherEnd(t *testing.T) {
	for _, g := range append(goodGrids(), mixedGrids(3)...) {
		for _, from := range cellsOf(g) {
			for _, to := range cellsOf(g) {
				slope, code := impl.SlopeTo(g, from, to)
				other, otherCode := impl.SlopeTo(g, to, from)
				if other != -slope || otherCode != code {
					t.Errorf("the slopes between %d and %d of %v are %d, %d and %d, %d", from, to, g, slope, code, other, otherCode)
				}
			}
		}
	}
}

// aroundMiddle returns nine cells of which one around the middle has another height.
func aroundMiddle(direction, middle, other, size int64) (impl.Grid, int64) {
	g := flatGrid(3, 3, middle)
	g.Size = size
	cell := []int64{1, 2, 5, 8, 7, 6, 3, 0}[direction]
	g.Heights[cell] = other
	return g, cell
}

func TestKnownSlopes(t *testing.T) {
	for _, known := range []struct{ fall, size, straight, diagonal int64 }{
		{0, 1, 0, 0}, {0, 100, 0, 0}, {5, 10, 500, 354}, {20, 10, 2000, 1414}, {1, 1, 1000, 707}, {1, 100, 10, 7}, {1, 3, 333, 236}, {2, 3, 667, 471}, {5000, 1, 5000000, 3536068}, {5000, 100, 50000, 35361},
		// These lie half between two numbers, and are rounded away from zero.
		{1, 16, 63, 44}, {3, 16, 188, 133}, {1, 80, 13, 9}, {707, 64, 11047, 7813}, {2121, 64, 33141, 23438},
		{7, 100, 70, 50}, {500, 100, 5000, 3536}, {707, 100, 7070, 5000}, {101, 7, 14429, 10204}, {4999, 99, 50495, 35711},
	} {
		for direction := range int64(8) {
			want := known.straight
			if direction%2 == 1 {
				want = known.diagonal
			}
			g, cell := aroundMiddle(direction, known.fall, 0, known.size)
			got, code := impl.SlopeTo(g, 4, cell)
			checkCoded(t, fmt.Sprint("SlopeTo down ", known, direction), got, code, want, impl.OK)
			got, code = impl.SlopeTo(g, cell, 4)
			checkCoded(t, fmt.Sprint("SlopeTo back up ", known, direction), got, code, -want, impl.OK)
			g, cell = aroundMiddle(direction, 0, known.fall, known.size)
			got, code = impl.SlopeTo(g, 4, cell)
			checkCoded(t, fmt.Sprint("SlopeTo up ", known, direction), got, code, -want, impl.OK)
		}
	}
}

func TestSlopesToOtherCells(t *testing.T) {
	for _, known := range []struct {
		rows, columns, from, to int64
	}{
		{1, 1, 0, 0}, {3, 3, 4, 4}, {3, 3, 0, 0}, {3, 3, 8, 8}, {1, 8, 0, 2}, {8, 1, 5, 7}, {1, 8, 7, 0}, {3, 3, 0, 2}, {3, 3, 0, 6}, {3, 3, 0, 8}, {3, 3, 0, 5}, {3, 3, 1, 8},
		// The last cell of a row and the first one of the next row are far away from each other.
		{3, 3, 2, 3}, {3, 3, 3, 2}, {3, 3, 5, 6}, {3, 3, 5, 0}, {3, 3, 3, 8}, {8, 8, 7, 8}, {8, 8, 15, 8}, {8, 8, 7, 16}, {8, 8, 0, 15}, {8, 8, 63, 48},
	} {
		got, code := impl.SlopeTo(flatGrid(known.rows, known.columns, 5), known.from, known.to)
		checkCoded(t, fmt.Sprint("SlopeTo of ", known), got, code, 0, impl.ErrState)
	}
}

// steepestAsTold returns the greatest slope down from a cell, where it leads and its direction.
func steepestDownAsTold(g impl.Grid, cell int64) (slope, to, direction, code int64) {
	code = impl.ErrNotFound
	for wanted := range int64(8) {
		for _, other := range cellsOf(g) {
			way, isNext := directionAsTold(g, cell, other)
			if !isNext || way != wanted || g.Heights[other] >= g.Heights[cell] {
				continue
			}
			if s := slopeAsTold(way, g.Heights[cell]-g.Heights[other], g.Size); code != impl.OK || s > slope {
				slope, to, direction, code = s, other, way, impl.OK
			}
		}
	}
	return slope, to, direction, code
}

func checkSteepestDown(t *testing.T, g impl.Grid, cell, wantSlope, wantTo, wantDirection, wanted int64) {
	t.Helper()
	slope, to, code := impl.SteepestOf(g, cell)
	checkBounds(t, fmt.Sprint("SteepestOf ", g, cell), slope, to, code, wantSlope, wantTo, wanted)
	direction, code := impl.AspectOf(g, cell)
	checkCoded(t, fmt.Sprint("AspectOf ", g, cell), direction, code, wantDirection, wanted)
}

func TestSteepestOf(t *testing.T) {
	for _, g := range append(goodGrids(), mixedGrids(2)...) {
		for _, cell := range cellsOf(g) {
			slope, to, direction, code := steepestDownAsTold(g, cell)
			checkSteepestDown(t, g, cell, slope, to, direction, code)
		}
	}
}

func TestSteepestOfEachDirection(t *testing.T) {
	for direction := range int64(8) {
		for _, fall := range []int64{1, 2, 100, 5000} {
			g, cell := aroundMiddle(direction, fall, 0, 100)
			checkSteepestDown(t, g, 4, slopeAsTold(direction, fall, 100), cell, direction, impl.OK)
			g, _ = aroundMiddle(direction, 0, fall, 100)
			checkSteepestDown(t, g, 4, 0, 0, 0, impl.ErrNotFound)
		}
	}
}

func TestKnownSteepestDescents(t *testing.T) {
	for _, known := range []struct {
		text                 string
		slope, to, direction int64
	}{
		// All are as steep, or all even ones, or all odd ones.
		{"3,3,10:4,4,4,4,9,4,4,4,4", 500, 1, 0}, {"3,3,10:9,4,9,4,9,4,9,4,9", 500, 1, 0}, {"3,3,10:4,9,4,9,9,9,4,9,4", 354, 2, 1}, {"3,3,10:4,9,9,9,9,9,9,9,4", 354, 8, 3}, {"3,3,10:4,9,9,9,9,9,4,9,9", 354, 6, 5}, {"3,3,10:9,9,9,4,9,9,9,4,9", 500, 7, 4},
		// A diagonal with a greater fall is not as steep, as steep, and steeper.
		{"3,3,100:9,9,2,9,9,3,9,9,9", 60, 5, 2}, {"3,3,100:9,9,2,9,9,4,9,9,9", 50, 2, 1}, {"3,3,100:9,9,2,9,9,5,9,9,9", 50, 2, 1}, {"3,3,100:9,9,9,9,9,4,9,9,2", 50, 5, 2}, {"3,3,100:9,9,9,9,9,9,2,4,9", 50, 7, 4}, {"3,3,100:9,9,9,4,9,9,2,9,9", 50, 6, 5}, {"3,3,100:2,4,9,9,9,9,9,9,9", 50, 1, 0}, {"3,3,100:2,9,9,4,9,9,9,9,9", 50, 3, 6}, {"3,3,100:2,9,9,5,9,9,9,9,9", 50, 0, 7},
		{"3,3,100:707,707,0,707,707,207,707,707,707", 5000, 2, 1}, {"3,3,100:707,707,707,707,707,207,707,707,0", 5000, 5, 2}, {"3,3,100:707,707,1,707,707,207,707,707,707", 5000, 5, 2},
		{"3,3,10:9,9,9,8,9,9,9,9,9", 100, 3, 6}, {"3,3,10:8,9,9,9,9,9,9,9,9", 71, 0, 7}, {"3,3,10:5000,5000,5000,5000,1,5000,5000,5000,0", 71, 8, 3}, {"3,3,1:0,0,0,0,5000,0,0,0,0", 5000000, 1, 0},
	} {
		checkSteepestDown(t, gridFrom(t, known.text), 4, known.slope, known.to, known.direction, impl.OK)
	}
	// A cell has no lesser one next to it.
	for _, text := range []string{"3,3,10:9,9,9,9,9,9,9,9,9", "3,3,10:9,9,9,9,8,9,9,9,9", "3,3,10:1,1,1,1,1,1,1,1,2", "3,3,1:5000,5000,5000,5000,0,5000,5000,5000,5000"} {
		checkSteepestDown(t, gridFrom(t, text), 4, 0, 0, 0, impl.ErrNotFound)
	}
	for _, text := range []string{"1,1,1:0", "1,1,1:5000", "1,2,1:7,7", "2,1,1:7,7", "1,2,1:7,8", "2,2,1:7,8,8,8"} {
		checkSteepestDown(t, gridFrom(t, text), 0, 0, 0, 0, impl.ErrNotFound)
	}
	checkSteepestDown(t, gridFrom(t, "2,1,10:5,0"), 0, 500, 1, 4, impl.OK)
	checkSteepestDown(t, gridFrom(t, "1,2,10:5,0"), 0, 500, 1, 2, impl.OK)
	// A low cell at the other edge is not next to the last one of a row.
	checkSteepestDown(t, gridFrom(t, "3,3,10:9,9,5,0,9,5,0,9,9"), 2, 0, 0, 0, impl.ErrNotFound)
}
