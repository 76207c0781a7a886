package tests

import (
	"fmt"
	"reflect"
	"slices"
	"testing"

	"loop.example/g01013/impl"
)

// exposureQuestion holds all that functions of chapter 15 take beside a grid.
type exposureQuestion struct {
	assets                   []impl.Asset
	reached, settled, masses []int64
	friction, cell, by       int64
}

// exposureFunction answers a question about a grid; takes holds the names of what counts for it.
type exposureFunction struct {
	name  string
	takes []string
	call  func(impl.Grid, exposureQuestion) ([]any, int64)
}

func (f exposureFunction) counts(name string) bool { return slices.Contains(f.takes, name) }

func exposureNumbers(g impl.Grid) []numberField[exposureQuestion] {
	return []numberField[exposureQuestion]{
		{"friction", func(q *exposureQuestion) *int64 { return &q.friction }, 1, 5000},
		{"cell", func(q *exposureQuestion) *int64 { return &q.cell }, 0, int64(len(g.Heights)) - 1},
		{"by", func(q *exposureQuestion) *int64 { return &q.by }, 0, 100},
	}
}

func exposureFunctions() []exposureFunction {
	return []exposureFunction{
		{"ExposedAssets", []string{"assets", "reached"}, func(g impl.Grid, q exposureQuestion) ([]any, int64) {
			indices, code := impl.ExposedAssets(g, q.assets, q.reached)
			return []any{indices}, code
		}},
		{"ExposedWorth", []string{"assets", "reached"}, func(g impl.Grid, q exposureQuestion) ([]any, int64) {
			worth, code := impl.ExposedWorth(g, q.assets, q.reached)
			return []any{worth}, code
		}},
		{"BuriedBy", []string{"assets", "settled"}, func(g impl.Grid, q exposureQuestion) ([]any, int64) {
			buried, code := impl.BuriedBy(g, q.assets, q.settled)
			return []any{buried}, code
		}},
		{"FirstHit", []string{"assets", "masses", "friction"}, func(g impl.Grid, q exposureQuestion) ([]any, int64) {
			asset, step, code := impl.FirstHit(g, q.assets, q.masses, q.friction)
			return []any{asset, step}, code
		}},
		{"RaiseCell", []string{"cell", "by"}, func(g impl.Grid, q exposureQuestion) ([]any, int64) {
			raised, code := impl.RaiseCell(g, q.cell, q.by)
			return []any{raised}, code
		}},
		{"BestDam", []string{"assets", "masses", "friction", "by"}, func(g impl.Grid, q exposureQuestion) ([]any, int64) {
			cell, worth, code := impl.BestDam(g, q.assets, q.masses, q.friction, q.by)
			return []any{cell, worth}, code
		}},
		{"SafeCells", []string{"reached"}, func(g impl.Grid, q exposureQuestion) ([]any, int64) {
			cells, code := impl.SafeCells(g, q.reached)
			return []any{cells}, code
		}},
	}
}

// answeredExposure is a question to which each function has an answer for answeredGrid.
func answeredExposure() exposureQuestion {
	return exposureQuestion{
		assets:  []impl.Asset{assetOf("hut", 50, 5), assetOf("road", 70, 1, 3, 4)},
		reached: []int64{0, 4, 5}, settled: []int64{0, 7, 0, 0, 2, 5}, masses: []int64{100, 0, 0, 0, 0, 0},
		friction: 100, cell: 4, by: 2,
	}
}

// oneExposure is a question about nothing but one asset in the first cell, which is as stated for each valid grid.
func oneExposure(g impl.Grid) exposureQuestion {
	none := repeated(0, len(g.Heights))
	return exposureQuestion{assets: assetsNamed("a"), settled: none, masses: none, friction: 1}
}

// checkNoExposure checks that a question has no answer but a code.
func checkNoExposure(t *testing.T, f exposureFunction, g impl.Grid, q exposureQuestion, wanted int64) {
	t.Helper()
	results, code := f.call(g, q)
	if code != wanted || slices.ContainsFunc(results, func(x any) bool { return !isNothing(x) }) {
		t.Errorf("%s of %.200v and %.200v = %v, %d, want %d", f.name, g, fmt.Sprint(q), results, code, wanted)
	}
}

func TestExposureFunctionsAtTheirLimits(t *testing.T) {
	for _, f := range exposureFunctions() {
		want, code := f.call(answeredGrid(), answeredExposure())
		if code != impl.OK || slices.ContainsFunc(want, isNothing) {
			t.Errorf("%s = %v, %d", f.name, want, code)
		}
		for _, field := range exposureNumbers(answeredGrid()) {
			for _, n := range []int64{field.least, field.least + 1, field.greatest - 1, field.greatest} {
				results, code := f.call(answeredGrid(), withField(answeredExposure(), field, n))
				// With much friction, no asset is hit.
				isMissed := f.name == "FirstHit" && field.name == "friction" && n > 212
				if isMissed != (code == impl.ErrNotFound) || !isMissed && code != impl.OK {
					t.Errorf("%s with the %s %d = %v, %d", f.name, field.name, n, results, code)
				}
			}
			if f.counts(field.name) {
				continue
			}
			for _, n := range append(otherNumbers(), field.least-1, field.greatest+1) {
				if got, code := f.call(answeredGrid(), withField(answeredExposure(), field, n)); !reflect.DeepEqual(got, want) || code != impl.OK {
					t.Errorf("%s with the %s %d, which it does not take, = %v, %d, want %v", f.name, field.name, n, got, code, want)
				}
			}
		}
	}
}

// TestExposureFunctionsLeaveOutOtherLists changes the lists that a function does not take.
func TestExposureFunctionsLeaveOutOtherLists(t *testing.T) {
	for _, f := range exposureFunctions() {
		want, _ := f.call(answeredGrid(), answeredExposure())
		q := answeredExposure()
		if !f.counts("assets") {
			q.assets = make([]impl.Asset, 13)
		}
		if !f.counts("reached") {
			q.reached = []int64{9, -1, 9}
		}
		if !f.counts("settled") {
			q.settled = []int64{-1}
		}
		if !f.counts("masses") {
			q.masses = []int64{-1}
		}
		if got, code := f.call(answeredGrid(), q); !reflect.DeepEqual(got, want) || code != impl.OK {
			t.Errorf("%s with other lists = %v, %d, want %v", f.name, got, code, want)
		}
	}
}

func TestMassesOfExposureAtTheirLimits(t *testing.T) {
	for _, g := range exposedGrids() {
		last := int64(len(g.Heights)) - 1
		for _, mass := range []int64{0, 1, impl.MaxMass - 1, impl.MaxMass} {
			for _, masses := range [][]int64{repeated(mass, len(g.Heights)), oneMass(g, 0, mass), oneMass(g, last, mass)} {
				list := []impl.Asset{assetOf("a", 5, last)}
				buried, code := impl.BuriedBy(g, list, masses)
				checkNumbers(t, fmt.Sprint("BuriedBy of ", masses), buried, code, masses[last:], impl.OK)
				if _, _, code := impl.FirstHit(g, list, masses, 1); code != impl.OK && code != impl.ErrNotFound {
					t.Errorf("FirstHit of %v = %d", masses, code)
				}
				if _, _, code := impl.BestDam(g, list, masses, 1, 1); code != impl.OK && code != impl.ErrNotFound {
					t.Errorf("BestDam of %v = %d", masses, code)
				}
			}
		}
	}
}

// TestExposureOfBadGrids has good and wrong assets, numbers and lists: what is not valid comes first.
func TestExposureOfBadGrids(t *testing.T) {
	for _, g := range badGrids() {
		for _, f := range exposureFunctions() {
			for _, q := range []exposureQuestion{answeredExposure(), {}, oneExposure(g), {assets: make([]impl.Asset, 13), reached: []int64{-1}, settled: []int64{-1}, masses: []int64{-1}, friction: -1, cell: -1, by: -1}, {assets: assetsNamed("b", "a"), reached: []int64{64, 64}, settled: repeated(0, 65), masses: repeated(0, 65), friction: 5001, cell: 64, by: 101}} {
				checkNoExposure(t, f, g, q, impl.ErrInvalid)
			}
		}
	}
}

// TestExposureOfBadAssets has numbers and lists that are as stated, and others that are not.
func TestExposureOfBadAssets(t *testing.T) {
	for _, g := range exposedGrids() {
		wrong := exposureQuestion{reached: []int64{-1}, settled: []int64{-1}, masses: []int64{-1}, friction: 0, cell: -1, by: -1}
		for _, list := range badAssetListsOf(g) {
			for _, f := range exposureFunctions() {
				if !f.counts("assets") {
					continue
				}
				for _, q := range []exposureQuestion{oneExposure(g), wrong} {
					q.assets = list
					checkNoExposure(t, f, g, q, impl.ErrInvalid)
				}
			}
		}
	}
}

// TestRangeOfExposureComesBeforeOrder has numbers that are not as stated, with lists that are and others that are not.
func TestRangeOfExposureComesBeforeOrder(t *testing.T) {
	for _, g := range append(exposedGrids(), flatGrid(1, 1, 5000), flatGrid(8, 8, 5000)) {
		for _, f := range exposureFunctions() {
			for _, field := range exposureNumbers(g) {
				if !f.counts(field.name) {
					continue
				}
				for _, n := range append(otherNumbers(), -1, field.least-1, field.greatest+1) {
					for _, masses := range append(badMassesOf(g), repeated(0, len(g.Heights)), repeated(1, len(g.Heights))) {
						q := oneExposure(g)
						q.masses = masses
						checkNoExposure(t, f, g, withField(q, field, n), impl.ErrRange)
					}
					// All numbers are wrong, or those of the others only.
					q := exposureQuestion{masses: repeated(0, len(g.Heights)), friction: n, cell: n, by: n}
					checkNoExposure(t, f, g, q, impl.ErrRange)
				}
			}
		}
	}
}

// TestOrderOfReachedCells has all cells that are none of a grid, and with assets in them, too.
func TestOrderOfReachedCells(t *testing.T) {
	for _, g := range exposedGrids() {
		for _, reached := range badCellsOf(g) {
			for _, f := range exposureFunctions() {
				if !f.counts("reached") {
					continue
				}
				for _, list := range [][]impl.Asset{nil, assetsNamed("a"), assetsIn(cellsOf(g)...)} {
					checkNoExposure(t, f, g, exposureQuestion{assets: list, reached: reached}, impl.ErrOrder)
				}
			}
		}
	}
}

// TestOrderOfMasses has numbers that are as stated, at their limits, too, and masses that are not.
func TestOrderOfMasses(t *testing.T) {
	for _, g := range append(exposedGrids(), flatGrid(1, 1, 5000), flatGrid(8, 8, 5000)) {
		for _, masses := range badMassesOf(g) {
			for _, f := range exposureFunctions() {
				if !f.counts("masses") && !f.counts("settled") {
					continue
				}
				for _, numbers := range []exposureQuestion{{friction: 1}, {friction: 5000, by: 100}, {friction: 100, by: 1, assets: assetsNamed("a")}, {friction: 1, by: 2, assets: manyAssets(12, 5, cellsOf(g)...)}} {
					q := numbers
					q.masses, q.settled = masses, masses
					// No asset is hit and no dam can be built in some of these, which would come later.
					checkNoExposure(t, f, g, q, impl.ErrOrder)
				}
			}
		}
	}
}

// TestOnlyTheListThatCountsIsOrdered has settled masses that are wrong where masses count, and the other way round.
func TestOnlyTheListThatCountsIsOrdered(t *testing.T) {
	g := answeredGrid()
	for _, masses := range badMassesOf(g) {
		for _, f := range exposureFunctions() {
			q := answeredExposure()
			if f.counts("masses") {
				q.settled = masses
			} else {
				q.masses = masses
			}
			if results, code := f.call(g, q); code != impl.OK {
				t.Errorf("%s = %v, %d", f.name, results, code)
			}
		}
	}
}

// TestRaisesOfBadCellsComeBeforeState has cells that are none, and wrong raises, where no cell can be raised.
func TestRaisesOfBadCellsComeBeforeState(t *testing.T) {
	for _, g := range []impl.Grid{flatGrid(1, 1, 5000), flatGrid(2, 3, 5000), flatGrid(8, 8, 5000)} {
		for _, cell := range append(otherNumbers(), -2, -1, int64(len(g.Heights)), int64(len(g.Heights))+1) {
			for _, by := range append(otherNumbers(), -1, 0, 1, 100, 101) {
				checkRaised(t, g, cell, by, impl.Grid{}, impl.ErrRange)
			}
		}
		for _, cell := range cellsOf(g) {
			for _, by := range append(otherNumbers(), -100, -1, 101, 102) {
				checkRaised(t, g, cell, by, impl.Grid{}, impl.ErrRange)
			}
			checkRaised(t, g, cell, 1, impl.Grid{}, impl.ErrState)
			checkRaised(t, g, cell, 100, impl.Grid{}, impl.ErrState)
			checkRaised(t, g, cell, 0, g, impl.OK)
		}
	}
}

// TestExposureWithoutAssets has answers and none.
func TestExposureWithoutAssets(t *testing.T) {
	for _, g := range exposedGrids() {
		for _, list := range [][]impl.Asset{nil, {}} {
			q := exposureQuestion{assets: list, reached: cellsOf(g), settled: repeated(1, len(g.Heights)), masses: oneMass(g, 0, 1), friction: 1}
			for _, f := range exposureFunctions() {
				switch f.name {
				case "ExposedAssets", "ExposedWorth", "BuriedBy":
					checkNoExposure(t, f, g, q, impl.OK)
				case "FirstHit":
					checkNoExposure(t, f, g, q, impl.ErrNotFound)
				case "BestDam":
					// The first cell has a mass, and the second one, if there is one, none.
					cell, wanted := int64(1), int64(impl.OK)
					if len(g.Heights) == 1 {
						cell, wanted = 0, impl.ErrNotFound
					}
					checkBestDam(t, exposureCase{routeCase{g, q.masses}, list, 1, 0}, cell, 0, wanted)
				}
			}
		}
	}
}
