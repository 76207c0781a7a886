package tests

import (
	"fmt"
	"slices"
	"testing"

	"loop.example/g01013/impl"
)

func allAspects() []int64 { return []int64{0, 1, 2, 3, 4, 5, 6, 7} }

func TestConstantOfRelease(t *testing.T) {
	if impl.MaxSlope != 10000 {
		t.Error(impl.MaxSlope)
	}
}

func TestSlopesOf(t *testing.T) {
	for _, g := range append(goodGrids(), mixedGrids(3)...) {
		want := []int64{}
		for _, cell := range cellsOf(g) {
			slope, _, _, _ := steepestDownAsTold(g, cell)
			want = append(want, slope)
			// What chapter 9 says of a cell is the same.
			if steepest, _, _ := impl.SteepestOf(g, cell); steepest != slope {
				t.Errorf("SteepestOf(%v, %d) = %d, want %d", g, cell, steepest, slope)
			}
		}
		got, code := impl.SlopesOf(g)
		checkNumbers(t, fmt.Sprint("SlopesOf ", g), got, code, want, impl.OK)
	}
}

func TestKnownSlopesOfGrids(t *testing.T) {
	for text, want := range map[string][]int64{
		"1,1,1:0": {0}, "1,1,100:5000": {0}, "1,2,10:5,0": {500, 0}, "1,2,10:0,5": {0, 500}, "2,1,10:5,0": {500, 0}, "1,3,10:5,5,5": {0, 0, 0}, "1,8,10:8,6,4,2,3,3,9,0": {200, 200, 200, 0, 100, 0, 900, 0}, "8,1,10:8,6,4,2,3,3,9,0": {200, 200, 200, 0, 100, 0, 900, 0},
		"3,3,10:100,100,100,90,80,90,70,60,75": {1414, 2000, 1414, 2122, 2000, 2122, 1000, 0, 1500}, "2,2,1:0,5000,5000,5000": {0, 5000000, 5000000, 3536068}, "2,2,100:0,1,1,1": {0, 10, 10, 7}, "2,2,10:4,4,4,4": {0, 0, 0, 0},
	} {
		got, code := impl.SlopesOf(gridFrom(t, text))
		checkNumbers(t, "SlopesOf "+text, got, code, want, impl.OK)
	}
}

// steepest says of a cell how steep it is, in which direction, and whether anything leads down from it.
type steepest struct{ slope, direction, code int64 }

func steepestOfAll(g impl.Grid) []steepest {
	all := []steepest{}
	for _, cell := range cellsOf(g) {
		slope, _, direction, code := steepestDownAsTold(g, cell)
		all = append(all, steepest{slope, direction, code})
	}
	return all
}

// slopesAround holds slopes of cells, others just beside them, and the limits of slopes.
func slopesAround(all []steepest) []int64 {
	slopes := []int64{0, 100, 10000}
	for _, x := range []steepest{all[0], all[len(all)/2], all[len(all)-1]} {
		slopes = append(slopes, max(0, x.slope-1), x.slope, x.slope+1)
	}
	return slopes
}

func TestStartCells(t *testing.T) {
	starts := 0
	for _, g := range append(goodGrids(), mixedGrids(2)...) {
		all := steepestOfAll(g)
		for _, low := range slopesAround(all) {
			for _, high := range slopesAround(all) {
				if low > high || high > 10000 {
					continue
				}
				for _, aspects := range [][]int64{nil, {0}, {7}, {1, 3, 5, 7}, {0, 1, 2, 3, 4, 5, 6}, allAspects()} {
					want := cellsWhere(g, func(cell int64) bool {
						x := all[cell]
						return x.code == impl.OK && x.slope >= low && x.slope <= high && slices.Contains(aspects, x.direction)
					})
					got, code := impl.StartCells(g, low, high, aspects)
					checkNumbers(t, fmt.Sprint("StartCells ", g, low, high, aspects), got, code, want, impl.OK)
					starts += len(want)
				}
			}
		}
	}
	if starts < 1000 {
		t.Errorf("only %d cells are starts", starts)
	}
}

type startCase struct {
	text      string
	low, high int64
	aspects   []int64
	want      []int64
}

func checkStarts(t *testing.T, cases []startCase) {
	t.Helper()
	for _, known := range cases {
		got, code := impl.StartCells(gridFrom(t, known.text), known.low, known.high, known.aspects)
		checkNumbers(t, fmt.Sprint("StartCells ", known.text, known.low, known.high, known.aspects), got, code, known.want, impl.OK)
	}
}

func TestKnownStartCells(t *testing.T) {
	bowl, row := "3,3,10:100,100,100,90,80,90,70,60,75", "1,8,10:8,6,4,2,3,3,9,0"
	checkStarts(t, []startCase{
		// The slopes are 1414 to the south-east, 2000 to the south, 1414 to the south-west; 2122 to the south-east, 2000 to the south, 2122 to the south-west; 1000 to the east, none, 1500 to the west.
		{text: bowl, low: 0, high: 10000, aspects: allAspects(), want: []int64{0, 1, 2, 3, 4, 5, 6, 8}}, {text: bowl, low: 1400, high: 2000, aspects: []int64{3, 4, 5}, want: []int64{0, 1, 2, 4}}, {text: bowl, low: 0, high: 10000},
		{text: bowl, low: 0, high: 10000, aspects: []int64{3}, want: []int64{0, 3}}, {text: bowl, low: 0, high: 10000, aspects: []int64{4}, want: []int64{1, 4}}, {text: bowl, low: 0, high: 10000, aspects: []int64{5}, want: []int64{2, 5}}, {text: bowl, low: 0, high: 10000, aspects: []int64{2}, want: []int64{6}}, {text: bowl, low: 0, high: 10000, aspects: []int64{6}, want: []int64{8}}, {text: bowl, low: 0, high: 10000, aspects: []int64{0, 1, 7}}, {text: bowl, low: 0, high: 10000, aspects: []int64{2, 6}, want: []int64{6, 8}},
		// Slopes just at low and at high, and one beside them.
		{text: bowl, low: 2000, high: 2000, aspects: allAspects(), want: []int64{1, 4}}, {text: bowl, low: 2001, high: 2121, aspects: allAspects()}, {text: bowl, low: 2001, high: 2122, aspects: allAspects(), want: []int64{3, 5}}, {text: bowl, low: 1999, high: 1999, aspects: allAspects()}, {text: bowl, low: 2001, high: 2001, aspects: allAspects()}, {text: bowl, low: 1000, high: 1500, aspects: allAspects(), want: []int64{0, 2, 6, 8}}, {text: bowl, low: 1001, high: 1499, aspects: allAspects(), want: []int64{0, 2}}, {text: bowl, low: 1415, high: 1999, aspects: allAspects(), want: []int64{8}}, {text: bowl, low: 2123, high: 10000, aspects: allAspects()}, {text: bowl, low: 0, high: 999, aspects: allAspects()}, {text: bowl, low: 10000, high: 10000, aspects: allAspects()}, {text: bowl, low: 0, high: 0, aspects: allAspects()},
		// A pit is no start, however small low is: nothing leads down from it, to the north neither.
		{text: "1,1,1:0", low: 0, high: 10000, aspects: allAspects()}, {text: "1,3,10:5,5,5", low: 0, high: 0, aspects: allAspects()}, {text: "3,3,10:5,5,5,5,5,5,5,5,5", low: 0, high: 10000, aspects: []int64{0}}, {text: "2,1,10:0,5", low: 0, high: 10000, aspects: []int64{0}, want: []int64{1}}, {text: "2,1,10:5,0", low: 0, high: 10000, aspects: []int64{0}},
		{text: row, low: 0, high: 10000, aspects: allAspects(), want: []int64{0, 1, 2, 4, 6}}, {text: row, low: 0, high: 10000, aspects: []int64{2}, want: []int64{0, 1, 2, 6}}, {text: row, low: 0, high: 10000, aspects: []int64{6}, want: []int64{4}}, {text: row, low: 100, high: 200, aspects: []int64{2, 6}, want: []int64{0, 1, 2, 4}}, {text: row, low: 101, high: 899, aspects: []int64{2, 6}, want: []int64{0, 1, 2}}, {text: row, low: 900, high: 10000, aspects: []int64{2, 6}, want: []int64{6}},
		// Slopes at MaxSlope and beyond.
		{text: "1,2,1:10,0", low: 0, high: 10000, aspects: allAspects(), want: []int64{0}}, {text: "1,2,1:10,0", low: 10000, high: 10000, aspects: allAspects(), want: []int64{0}}, {text: "1,2,1:10,0", low: 0, high: 9999, aspects: allAspects()}, {text: "1,2,1:11,0", low: 0, high: 10000, aspects: allAspects()}, {text: "2,2,1:0,5000,5000,5000", low: 0, high: 10000, aspects: allAspects()},
	})
}

// TestStartCellsOfEachAspect asks for one direction, and for all others.
func TestStartCellsOfEachAspect(t *testing.T) {
	for direction := range int64(8) {
		g, _ := aroundMiddle(direction, 9, 0, 10)
		others := slices.DeleteFunc(allAspects(), func(aspect int64) bool { return aspect == direction })
		for _, aspects := range [][]int64{{direction}, allAspects(), others} {
			got, code := impl.StartCells(g, 0, 10000, aspects)
			if slices.Contains(got, 4) != slices.Contains(aspects, direction) || code != impl.OK {
				t.Errorf("StartCells of %v with the aspects %v = %v, %d", g, aspects, got, code)
			}
		}
	}
}
