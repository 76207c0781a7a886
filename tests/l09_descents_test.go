package tests

import (
	"fmt"
	"slices"
	"testing"

	"loop.example/g01013/impl"
)

func descentAsTold(g impl.Grid, cell int64) []int64 {
	_, to, _, code := steepestDownAsTold(g, cell)
	if code != impl.OK {
		return []int64{cell}
	}
	return append([]int64{cell}, descentAsTold(g, to)...)
}

// cellsWithoutAsTold returns the cells next to which no height is on one side of their own.
func cellsWithoutAsTold(g impl.Grid, isBeyond func(other, own int64) bool) []int64 {
	return slices.DeleteFunc(cellsOf(g), func(cell int64) bool {
		return slices.ContainsFunc(neighboursAsTold(g, cell), func(other int64) bool { return isBeyond(g.Heights[other], g.Heights[cell]) })
	})
}

func isGreater(a, b int64) bool { return a > b }

func isLess(a, b int64) bool { return a < b }

func TestDescentOf(t *testing.T) {
	for _, g := range goodGrids() {
		for _, cell := range cellsOf(g) {
			got, code := impl.DescentOf(g, cell)
			checkNumbers(t, fmt.Sprint("DescentOf ", g, cell), got, code, descentAsTold(g, cell), impl.OK)
		}
	}
}

// TestDescentsFallToPits is the other half of the tenth promise.
func TestDescentsFallToPits(t *testing.T) {
	for _, g := range append(goodGrids(), mixedGrids(2)...) {
		pits, _ := impl.PitsOf(g)
		for _, cell := range cellsOf(g) {
			descent, code := impl.DescentOf(g, cell)
			if code != impl.OK || descent[0] != cell || !slices.Contains(pits, descent[len(descent)-1]) {
				t.Errorf("DescentOf(%v, %d) = %v, %d, the pits are %v", g, cell, descent, code, pits)
			}
			for i, next := range descent[1:] {
				slope, code := impl.SlopeTo(g, descent[i], next)
				steepest, to, _ := impl.SteepestOf(g, descent[i])
				if code != impl.OK || slope <= 0 || slope != steepest || to != next || g.Heights[next] >= g.Heights[descent[i]] {
					t.Errorf("DescentOf(%v, %d) = %v leads on to %d", g, cell, descent, next)
				}
			}
		}
	}
}

func TestKnownDescents(t *testing.T) {
	steps := "8,8,10:80,79,78,77,76,75,74,73,99,99,99,99,99,99,99,72,64,65,66,67,68,69,70,71,63,99,99,99,99,99,99,99,62,61,60,59,58,57,56,55,99,99,99,99,99,99,99,54,46,47,48,49,50,51,52,53,45,99,99,99,99,99,99,99"
	for _, known := range []struct {
		text string
		cell int64
		want []int64
	}{
		{"1,1,1:0", 0, []int64{0}}, {"1,2,1:7,7", 0, []int64{0}}, {"1,2,1:7,7", 1, []int64{1}}, {"2,2,1:7,8,8,8", 0, []int64{0}}, {"2,2,1:7,8,8,8", 3, []int64{3, 0}}, {"2,2,1:7,8,8,8", 1, []int64{1, 0}}, {"3,3,10:100,100,100,90,80,90,70,60,75", 1, []int64{1, 4, 7}}, {"3,3,10:100,100,100,90,80,90,70,60,75", 7, []int64{7}},
		{"1,8,7:8,7,6,5,4,3,2,1", 0, []int64{0, 1, 2, 3, 4, 5, 6, 7}}, {"1,8,7:1,2,3,4,5,6,7,8", 7, []int64{7, 6, 5, 4, 3, 2, 1, 0}}, {"8,1,7:8,7,6,5,5,3,2,1", 0, []int64{0, 1, 2, 3}}, {"8,1,7:8,7,6,5,4,3,2,1", 5, []int64{5, 6, 7}},
		// A long way round walls, with diagonals at its corners; the walls stand above the way.
		{steps, 0, []int64{0, 1, 2, 3, 4, 5, 6, 15, 22, 21, 20, 19, 18, 17, 24, 33, 34, 35, 36, 37, 38, 47, 54, 53, 52, 51, 50, 49, 56}}, {steps, 7, []int64{7, 15, 22, 21, 20, 19, 18, 17, 24, 33, 34, 35, 36, 37, 38, 47, 54, 53, 52, 51, 50, 49, 56}}, {steps, 56, []int64{56}}, {steps, 57, []int64{57, 56}}, {steps, 8, []int64{8, 16, 24, 33, 34, 35, 36, 37, 38, 47, 54, 53, 52, 51, 50, 49, 56}},
	} {
		got, code := impl.DescentOf(gridFrom(t, known.text), known.cell)
		checkNumbers(t, fmt.Sprint("DescentOf ", known.text, known.cell), got, code, known.want, impl.OK)
	}
}

func TestPeaksAndPits(t *testing.T) {
	for _, g := range append(goodGrids(), mixedGrids(3)...) {
		peaks, code := impl.PeaksOf(g)
		checkNumbers(t, fmt.Sprint("PeaksOf ", g), peaks, code, cellsWithoutAsTold(g, isGreater), impl.OK)
		pits, code := impl.PitsOf(g)
		checkNumbers(t, fmt.Sprint("PitsOf ", g), pits, code, cellsWithoutAsTold(g, isLess), impl.OK)
		for _, cell := range cellsOf(g) {
			if _, _, code := impl.SteepestOf(g, cell); (code == impl.ErrNotFound) != slices.Contains(pits, cell) {
				t.Errorf("SteepestOf(%v, %d) returns %d, the pits are %v", g, cell, code, pits)
			}
		}
	}
}

func TestKnownPeaksAndPits(t *testing.T) {
	for text, want := range map[string][2][]int64{
		"1,1,1:0": {{0}, {0}}, "1,1,100:5000": {{0}, {0}}, "1,2,1:3,3": {{0, 1}, {0, 1}}, "1,2,1:3,4": {{1}, {0}}, "2,1,1:4,3": {{0}, {1}}, "1,8,1:1,2,1,1,3,3,2,4": {{1, 4, 5, 7}, {0, 2, 3, 6}}, "8,1,1:1,2,1,1,3,3,2,4": {{1, 4, 5, 7}, {0, 2, 3, 6}},
		"2,3,1:5,5,5,5,5,5": {{0, 1, 2, 3, 4, 5}, {0, 1, 2, 3, 4, 5}}, "3,3,10:100,100,100,90,80,90,70,60,75": {{0, 1, 2}, {7}}, "3,3,1:1,1,1,1,2,1,1,1,1": {{4}, {0, 1, 2, 3, 5, 6, 7, 8}}, "3,3,1:2,2,2,2,1,2,2,2,2": {{0, 1, 2, 3, 5, 6, 7, 8}, {4}},
		// A plateau, of which one cell has a greater one, or a lesser one, next to it by a diagonal alone.
		"3,4,1:9,5,5,5,5,5,5,5,5,5,5,5": {{0, 2, 3, 6, 7, 8, 9, 10, 11}, {1, 2, 3, 4, 5, 6, 7, 8, 9, 10, 11}}, "3,4,1:5,5,5,5,5,5,5,5,5,5,5,0": {{0, 1, 2, 3, 4, 5, 6, 7, 8, 9, 10}, {0, 1, 2, 3, 4, 5, 8, 9, 11}}, "2,2,1:1,2,2,1": {{1, 2}, {0, 3}}, "2,2,1:1,2,3,1": {{2}, {0, 3}},
		// What lies at the other edge is not next to the end of a row.
		"2,3,1:1,1,5,4,1,1": {{2, 3}, {0, 1, 4, 5}}, "3,3,1:0,0,1,9,0,0,0,0,0": {{2, 3, 8}, {0, 1, 4, 5, 6, 7, 8}},
	} {
		g := gridFrom(t, text)
		peaks, code := impl.PeaksOf(g)
		checkNumbers(t, "PeaksOf "+text, peaks, code, want[0], impl.OK)
		pits, code := impl.PitsOf(g)
		checkNumbers(t, "PitsOf "+text, pits, code, want[1], impl.OK)
	}
	for _, height := range []int64{0, 2500, 5000} {
		g := flatGrid(8, 8, height)
		peaks, code := impl.PeaksOf(g)
		checkNumbers(t, "PeaksOf a flat grid", peaks, code, cellsOf(g), impl.OK)
		pits, code := impl.PitsOf(g)
		checkNumbers(t, "PitsOf a flat grid", pits, code, cellsOf(g), impl.OK)
	}
}
