package tests

import (
	"reflect"
	"slices"
	"testing"

	"loop.example/g01013/impl"
)

// releaseQuestion holds all that functions of chapter 11 take beside a grid.
type releaseQuestion struct {
	low, high, most int64
	cells, aspects  []int64
}

// releaseFunction answers a question about a grid; takes holds the names of what counts for it.
type releaseFunction struct {
	name  string
	takes []string
	call  func(impl.Grid, releaseQuestion) ([]any, int64)
}

// releaseNumbers holds the numbers of questions whose low is 100.
func releaseNumbers() []numberField[releaseQuestion] {
	return []numberField[releaseQuestion]{
		{"low", func(q *releaseQuestion) *int64 { return &q.low }, 0, 10000},
		{"high", func(q *releaseQuestion) *int64 { return &q.high }, 100, 10000},
		{"most", func(q *releaseQuestion) *int64 { return &q.most }, 0, 5000},
	}
}

func releaseFunctions() []releaseFunction {
	return []releaseFunction{
		{"SlopesOf", nil, func(g impl.Grid, _ releaseQuestion) ([]any, int64) {
			slopes, code := impl.SlopesOf(g)
			return []any{slopes}, code
		}},
		{"StartCells", []string{"low", "high", "aspects"}, func(g impl.Grid, q releaseQuestion) ([]any, int64) {
			cells, code := impl.StartCells(g, q.low, q.high, q.aspects)
			return []any{cells}, code
		}},
		{"PartsOf", []string{"cells"}, func(g impl.Grid, q releaseQuestion) ([]any, int64) {
			parts, code := impl.PartsOf(g, q.cells)
			return []any{parts}, code
		}},
		{"LargestPart", []string{"cells"}, func(g impl.Grid, q releaseQuestion) ([]any, int64) {
			part, code := impl.LargestPart(g, q.cells)
			return []any{part}, code
		}},
		{"AreaOf", []string{"cells"}, func(g impl.Grid, q releaseQuestion) ([]any, int64) {
			area, code := impl.AreaOf(g, q.cells)
			return []any{area}, code
		}},
		{"BorderOf", []string{"cells"}, func(g impl.Grid, q releaseQuestion) ([]any, int64) {
			border, code := impl.BorderOf(g, q.cells)
			return []any{border}, code
		}},
		{"GrowCells", []string{"cells", "most"}, func(g impl.Grid, q releaseQuestion) ([]any, int64) {
			cells, code := impl.GrowCells(g, q.cells, q.most)
			return []any{cells}, code
		}},
		{"AboveCells", []string{"cells"}, func(g impl.Grid, q releaseQuestion) ([]any, int64) {
			cells, code := impl.AboveCells(g, q.cells)
			return []any{cells}, code
		}},
	}
}

// answeredRelease is a question to which each function has an answer for answeredGrid.
func answeredRelease() releaseQuestion {
	return releaseQuestion{low: 100, high: 1000, most: 2, cells: []int64{4, 5}, aspects: []int64{2, 3, 4}}
}

// checkNoRelease checks that a question has no answer but a code.
func checkNoRelease(t *testing.T, f releaseFunction, g impl.Grid, q releaseQuestion, wanted int64) {
	t.Helper()
	results, code := f.call(g, q)
	if code != wanted || slices.ContainsFunc(results, func(x any) bool { return !isNothing(x) }) {
		t.Errorf("%s of %.200v and %.200v = %v, %d, want %d", f.name, g, q, results, code, wanted)
	}
}

func TestReleaseFunctionsAtTheirLimits(t *testing.T) {
	for _, f := range releaseFunctions() {
		want, code := f.call(answeredGrid(), answeredRelease())
		if code != impl.OK || slices.ContainsFunc(want, isNothing) {
			t.Errorf("%s = %v, %d", f.name, want, code)
		}
		for _, field := range releaseNumbers() {
			for _, n := range []int64{field.least, field.least + 1, field.greatest - 1, field.greatest} {
				q := withField(answeredRelease(), field, n)
				// High may not be less than low.
				q.high = max(q.high, q.low)
				if results, code := f.call(answeredGrid(), q); code != impl.OK {
					t.Errorf("%s with the %s %d = %v, %d", f.name, field.name, n, results, code)
				}
			}
			if slices.Contains(f.takes, field.name) {
				continue
			}
			for _, n := range append(otherNumbers(), field.least-1, field.greatest+1) {
				if got, code := f.call(answeredGrid(), withField(answeredRelease(), field, n)); !reflect.DeepEqual(got, want) || code != impl.OK {
					t.Errorf("%s with the %s %d, which it does not take, = %v, %d, want %v", f.name, field.name, n, got, code, want)
				}
			}
		}
	}
}

// TestReleaseFunctionsLeaveOutOtherLists changes the lists that a function does not take.
func TestReleaseFunctionsLeaveOutOtherLists(t *testing.T) {
	for _, f := range releaseFunctions() {
		want, _ := f.call(answeredGrid(), answeredRelease())
		q := answeredRelease()
		if !slices.Contains(f.takes, "cells") {
			q.cells = []int64{9, -1, 9}
		}
		if !slices.Contains(f.takes, "aspects") {
			q.aspects = []int64{9, -1, 9}
		}
		if got, code := f.call(answeredGrid(), q); !reflect.DeepEqual(got, want) || code != impl.OK {
			t.Errorf("%s with other lists = %v, %d, want %v", f.name, got, code, want)
		}
	}
}

// TestRangeOfReleaseComesBeforeOrder has numbers that are not as stated, with lists that are and others that are not.
func TestRangeOfReleaseComesBeforeOrder(t *testing.T) {
	for _, f := range releaseFunctions() {
		for _, field := range releaseNumbers() {
			if !slices.Contains(f.takes, field.name) {
				continue
			}
			for _, n := range append(otherNumbers(), field.least-1, field.greatest+1) {
				for _, lists := range []releaseQuestion{answeredRelease(), {}, {cells: []int64{-1}, aspects: []int64{-1}}, {cells: []int64{6}, aspects: []int64{8}}, {cells: []int64{1, 1}, aspects: []int64{1, 1}}, {cells: []int64{1, 0}, aspects: []int64{1, 0}}} {
					q := withField(answeredRelease(), field, n)
					q.cells, q.aspects = lists.cells, lists.aspects
					checkNoRelease(t, f, answeredGrid(), q, impl.ErrRange)
				}
			}
		}
	}
}

func TestHighIsAtLeastLow(t *testing.T) {
	for _, low := range []int64{0, 1, 500, 9999, 10000} {
		for _, high := range []int64{0, 1, 499, 500, 501, 9998, 9999, 10000, 10001} {
			wanted := int64(impl.OK)
			if high < low || high > 10000 {
				wanted = impl.ErrRange
			}
			if got, code := impl.StartCells(answeredGrid(), low, high, []int64{0}); len(got) > 0 || code != wanted {
				t.Errorf("StartCells from %d to %d = %v, %d, want the code %d", low, high, got, code, wanted)
			}
		}
	}
}

// TestOrderOfReleases has numbers that are as stated, at their limits, too, and lists that are not.
func TestOrderOfReleases(t *testing.T) {
	for _, f := range releaseFunctions() {
		for _, numbers := range []releaseQuestion{{}, {low: 100, high: 1000, most: 2}, {low: 10000, high: 10000, most: 5000}} {
			if slices.Contains(f.takes, "aspects") {
				for _, aspects := range badAspects() {
					q := numbers
					q.aspects = aspects
					checkNoRelease(t, f, answeredGrid(), q, impl.ErrOrder)
				}
			}
			if slices.Contains(f.takes, "cells") {
				for _, g := range []impl.Grid{answeredGrid(), flatGrid(1, 1, 5), flatGrid(1, 8, 5), flatGrid(8, 1, 5), flatGrid(7, 7, 5), flatGrid(8, 8, 5)} {
					for _, cells := range badCellsOf(g) {
						q := numbers
						q.cells = cells
						checkNoRelease(t, f, g, q, impl.ErrOrder)
					}
				}
			}
		}
	}
}

func TestReleaseWithoutCells(t *testing.T) {
	for _, g := range []impl.Grid{answeredGrid(), flatGrid(1, 1, 5), flatGrid(8, 8, 5)} {
		for _, f := range releaseFunctions() {
			if !slices.Contains(f.takes, "cells") {
				continue
			}
			wanted := int64(impl.OK)
			if f.name == "LargestPart" {
				wanted = impl.ErrNotFound
			}
			for _, cells := range [][]int64{nil, {}} {
				checkNoRelease(t, f, g, releaseQuestion{most: 5000, cells: cells}, wanted)
			}
		}
	}
}

// TestReleaseOfBadGrids has good and wrong numbers and lists: what is not valid comes first.
func TestReleaseOfBadGrids(t *testing.T) {
	for _, g := range badGrids() {
		for _, f := range releaseFunctions() {
			for _, q := range []releaseQuestion{answeredRelease(), {}, {low: -1, high: -1, most: -1, cells: []int64{-1}, aspects: []int64{-1}}, {low: 10001, high: 10001, most: 5001, cells: []int64{64, 64}, aspects: []int64{8, 8}}, {low: 2, high: 1, cells: []int64{0, 1}, aspects: []int64{1, 0}}} {
				checkNoRelease(t, f, g, q, impl.ErrInvalid)
			}
		}
	}
}
