package tests

import (
	"fmt"
	"testing"

	"loop.example/g01013/impl"
)

func checkRaised(t *testing.T, g impl.Grid, cell, by int64, want impl.Grid, wanted int64) {
	t.Helper()
	got, code := impl.RaiseCell(g, cell, by)
	if !gridsEqual(got, want) || code != wanted {
		t.Errorf("RaiseCell of %v, %d and %d = %v, %d, want %v, %d", g, cell, by, got, code, want, wanted)
	}
}

func TestRaiseCell(t *testing.T) {
	for _, g := range goodGrids() {
		for _, cell := range cellsOf(g) {
			for _, by := range []int64{0, 1, 2, 50, 99, 100} {
				want, wanted := copyOfGrid(g), int64(impl.OK)
				want.Heights[cell] += by
				if want.Heights[cell] > 5000 {
					want, wanted = impl.Grid{}, impl.ErrState
				}
				checkRaised(t, g, cell, by, want, wanted)
			}
		}
	}
}

func TestKnownRaisedCells(t *testing.T) {
	for _, known := range []struct {
		text     string
		cell, by int64
		want     string
	}{
		{"1,1,1:0", 0, 0, "1,1,1:0"}, {"1,1,1:0", 0, 100, "1,1,1:100"}, {"1,1,1:4900", 0, 100, "1,1,1:5000"}, {"1,1,1:4901", 0, 99, "1,1,1:5000"}, {"1,1,1:4999", 0, 1, "1,1,1:5000"}, {"1,1,1:5000", 0, 0, "1,1,1:5000"},
		{"2,3,100:1,2,3,4,5,6", 0, 10, "2,3,100:11,2,3,4,5,6"}, {"2,3,100:1,2,3,4,5,6", 3, 10, "2,3,100:1,2,3,14,5,6"}, {"2,3,100:1,2,3,4,5,6", 5, 10, "2,3,100:1,2,3,4,5,16"}, {"2,3,100:1,2,3,4,5,6", 2, 0, "2,3,100:1,2,3,4,5,6"}, {"3,2,7:5000,5000,5000,5000,4950,5000", 4, 50, "3,2,7:5000,5000,5000,5000,5000,5000"},
	} {
		checkRaised(t, gridFrom(t, known.text), known.cell, known.by, gridFrom(t, known.want), impl.OK)
	}
	for _, known := range []struct {
		text     string
		cell, by int64
	}{
		{"1,1,1:5000", 0, 1}, {"1,1,1:5000", 0, 100}, {"1,1,1:4901", 0, 100}, {"1,1,1:4999", 0, 2}, {"1,3,10:0,5000,0", 1, 1}, {"1,3,10:0,0,4950", 2, 51},
	} {
		checkRaised(t, gridFrom(t, known.text), known.cell, known.by, impl.Grid{}, impl.ErrState)
	}
}

// TestHeightsThatAreJustEnough raises cells near the greatest height.
func TestHeightsThatAreJustEnough(t *testing.T) {
	for height := int64(4895); height <= 5000; height++ {
		for by := range int64(101) {
			g := gridOf(1, 2, 10, 7, height)
			want, wanted := gridOf(1, 2, 10, 7, height+by), int64(impl.OK)
			if height+by > 5000 {
				want, wanted = impl.Grid{}, impl.ErrState
			}
			checkRaised(t, g, 1, by, want, wanted)
		}
	}
}

// bestDamAsTold builds each dam and lets the masses run again.
func bestDamAsTold(c exposureCase) (best, worth, code int64) {
	code = impl.ErrNotFound
	for _, cell := range cellsOf(c.g) {
		g := copyOfGrid(c.g)
		g.Heights[cell] += c.by
		if c.masses[cell] > 0 || g.Heights[cell] > 5000 {
			continue
		}
		reached := runDown(waysDownAsTold(g), c.masses, c.friction).reached()
		if exposed := worthAsTold(c.assets, reached); code != impl.OK || exposed < worth {
			best, worth, code = cell, exposed, impl.OK
		}
	}
	return best, worth, code
}

func checkBestDam(t *testing.T, c exposureCase, want, wantWorth, wanted int64) {
	t.Helper()
	cell, worth, code := impl.BestDam(c.g, c.assets, c.masses, c.friction, c.by)
	if cell != want || worth != wantWorth || code != wanted {
		t.Errorf("BestDam of %v = %d, %d, %d, want %d, %d, %d", c, cell, worth, code, want, wantWorth, wanted)
	}
}

func TestBestDam(t *testing.T) {
	helpful, useless, none := 0, 0, 0
	for _, c := range exposureCases(1200) {
		cell, worth, wanted := bestDamAsTold(c)
		checkBestDam(t, c, cell, worth, wanted)
		before := worthAsTold(c.assets, runDown(waysDownAsTold(c.g), c.masses, c.friction).reached())
		switch {
		case wanted != impl.OK:
			none++
		case worth < before:
			helpful++
		default:
			useless++
		}
	}
	if helpful < 100 || useless < 100 || none < 10 {
		t.Errorf("only %d dams help, %d do not, and there is none in %d cases", helpful, useless, none)
	}
}

// TestBestDamOfLargeGrids has few cases, because each one has many dams.
func TestBestDamOfLargeGrids(t *testing.T) {
	for i, c := range largeExposures() {
		if i%11 == 0 {
			cell, worth, wanted := bestDamAsTold(c)
			checkBestDam(t, c, cell, worth, wanted)
		}
	}
}

// checkNoBetterDam checks the best dam of a case against each other one, by the exported functions alone.
func checkNoBetterDam(t *testing.T, c exposureCase) {
	t.Helper()
	best, least, code := impl.BestDam(c.g, c.assets, c.masses, c.friction, c.by)
	isBuilt := false
	for _, cell := range cellsOf(c.g) {
		g, failure := impl.RaiseCell(c.g, cell, c.by)
		if c.masses[cell] > 0 || failure != impl.OK {
			if code == impl.OK && cell == best {
				t.Errorf("the best dam of %v is %d, where none can be", c, best)
			}
			continue
		}
		reached, _ := impl.ReachedBy(g, c.masses, c.friction)
		worth, _ := impl.ExposedWorth(g, c.assets, reached)
		if code != impl.OK || worth < least || worth == least && cell < best || cell == best && worth != least {
			t.Errorf("the best dam of %v is %d with %d, %d, and %d has %d", c, best, least, code, cell, worth)
		}
		isBuilt = isBuilt || cell == best
	}
	if isBuilt != (code == impl.OK) || code != impl.OK && code != impl.ErrNotFound {
		t.Errorf("the best dam of %v is %d, %d", c, best, code)
	}
}

// TestNoDamIsBetter is the second half of the sixteenth promise.
func TestNoDamIsBetter(t *testing.T) {
	for _, c := range exposureCases(500) {
		checkNoBetterDam(t, c)
	}
	for i, c := range largeExposures() {
		if i%5 == 0 {
			checkNoBetterDam(t, c)
		}
	}
}

func TestKnownBestDams(t *testing.T) {
	bowl, row := "3,3,10:100,100,100,90,80,90,70,60,75", "1,5,10:50,40,30,20,10"
	slab, start := []int64{0, 100, 0, 0, 0, 0, 0, 0, 0}, []int64{5, 0, 0, 0, 0}
	road, hut := assetOf("road", 100, 7, 8), assetOf("hut", 7, 4)
	for _, known := range []struct {
		text         string
		masses       []int64
		list         []impl.Asset
		friction, by int64
		cell, worth  int64
	}{
		// Both the cells 4 and 7 make the exposed worth 0, and the first one counts.
		{bowl, slab, []impl.Asset{road, assetOf("shed", 40, 3)}, 800, 30, 4, 0}, {bowl, slab, []impl.Asset{assetOf("road", 100, 4), assetOf("shed", 40, 7)}, 800, 30, 4, 0}, {bowl, slab, []impl.Asset{assetOf("road", 100, 7)}, 800, 20, 4, 0}, {bowl, slab, []impl.Asset{assetOf("road", 100, 7)}, 1500, 6, 4, 0},
		// With one metre less, the slopes are just as much as the friction, and no dam helps.
		{bowl, slab, []impl.Asset{assetOf("road", 100, 7)}, 800, 13, 4, 0}, {bowl, slab, []impl.Asset{assetOf("road", 100, 7)}, 800, 12, 0, 100}, {bowl, slab, []impl.Asset{assetOf("road", 100, 7)}, 1500, 5, 0, 100},
		// A dam just as high as the mass lies, one that is a metre lower, and one that is lower but leaves too little slope.
		{row, start, []impl.Asset{hut}, 1, 10, 1, 0}, {row, start, []impl.Asset{hut}, 1, 9, 1, 7}, {row, start, []impl.Asset{hut}, 101, 9, 1, 0}, {row, start, []impl.Asset{hut}, 100, 9, 1, 7}, {row, start, []impl.Asset{hut}, 1, 100, 1, 0}, {row, start, []impl.Asset{hut}, 1, 0, 1, 7},
		// The mass stops before the asset anyway, so that the first cell without a mass counts.
		{row, start, []impl.Asset{hut}, 1001, 10, 1, 0}, {row, start, []impl.Asset{hut}, 5000, 0, 1, 0}, {row, []int64{0, 0, 0, 5, 0}, []impl.Asset{assetOf("road", 9, 1)}, 1, 5, 0, 0}, {row, start, nil, 1, 10, 1, 0}, {row, repeated(0, 5), []impl.Asset{hut}, 1, 10, 0, 0}, {row, []int64{1, 1, 0, 0, 0}, nil, 1, 0, 2, 0},
		// An asset where a mass begins is exposed with every dam.
		{row, start, []impl.Asset{assetOf("top", 30, 0)}, 1, 10, 1, 30}, {row, start, []impl.Asset{assetOf("hut", 7, 4), assetOf("top", 30, 0)}, 1, 10, 1, 30}, {row, []int64{5, 0, 5, 0, 0}, []impl.Asset{assetOf("a", 1, 1), assetOf("b", 2, 3)}, 1, 10, 3, 1}, {row, []int64{5, 0, 5, 0, 0}, []impl.Asset{assetOf("a", 2, 1), assetOf("b", 1, 3)}, 1, 10, 1, 1},
		// The dam helps if it stands in front of the asset, in its cell, or beside it: of several ones the first is best.
		{row, []int64{5, 5, 5, 0, 0}, []impl.Asset{hut}, 1, 10, 3, 0}, {row, []int64{5, 5, 5, 5, 0}, []impl.Asset{hut}, 1, 10, 4, 0}, {row, []int64{5, 0, 0, 5, 0}, []impl.Asset{assetOf("a", 1, 1), assetOf("b", 8, 2), assetOf("c", 4, 4)}, 1, 10, 1, 4}, {row, []int64{5, 0, 0, 5, 0}, []impl.Asset{assetOf("a", 1, 1), assetOf("b", 1, 2), assetOf("c", 4, 4)}, 1, 10, 4, 2},
		// The cell 1 becomes as high as may be, then it cannot be raised, nor can the cell 2.
		{"1,4,10:5000,4990,4980,4970", []int64{1, 0, 0, 0}, []impl.Asset{assetOf("a", 5, 1, 2), assetOf("b", 3, 3)}, 1, 10, 1, 0}, {"1,4,10:5000,4990,4980,4970", []int64{1, 0, 0, 0}, []impl.Asset{assetOf("a", 5, 1, 2), assetOf("b", 3, 3)}, 1, 11, 2, 5}, {"1,4,10:5000,4990,4980,4970", []int64{1, 0, 0, 0}, []impl.Asset{assetOf("a", 5, 1, 2), assetOf("b", 3, 3)}, 1, 20, 2, 5}, {"1,4,10:5000,4990,4980,4970", []int64{1, 0, 0, 0}, []impl.Asset{assetOf("a", 5, 1, 2), assetOf("b", 3, 3)}, 1, 21, 3, 5},
		// Raised by nothing, even cells as high as may be are such cells.
		{"1,3,10:5000,5000,5000", []int64{1, 0, 0}, []impl.Asset{hut}[:0], 1, 0, 1, 0}, {"1,3,10:5000,5000,4999", []int64{0, 0, 0}, nil, 1, 1, 2, 0}, {"1,1,1:0", []int64{0}, []impl.Asset{assetOf("a", 5, 0)}, 1, 100, 0, 0}, {"1,1,1:5000", []int64{0}, []impl.Asset{assetOf("a", 5, 0)}, 1, 0, 0, 0},
		// A mass of 1 goes to the west; with a dam there it goes to the east, where more is exposed, and a dam there leaves all as it is.
		{"1,3,10:0,10,4", []int64{0, 1, 0}, []impl.Asset{assetOf("a", 50, 0), assetOf("b", 100, 2)}, 1, 10, 2, 50}, {"1,3,10:0,10,4", []int64{0, 1, 0}, []impl.Asset{assetOf("a", 100, 0), assetOf("b", 50, 2)}, 1, 10, 0, 50}, {"1,3,10:0,10,4", []int64{0, 1, 0}, []impl.Asset{assetOf("a", 50, 0), assetOf("b", 50, 2)}, 1, 10, 0, 50}, {"1,3,10:0,10,4", []int64{0, 1, 0}, []impl.Asset{assetOf("a", 50, 0), assetOf("b", 0, 2)}, 1, 10, 0, 0}, {"1,3,10:0,10,4", []int64{0, 1, 0}, []impl.Asset{assetOf("b", 100, 2)}, 1, 10, 2, 0},
		// Raised, the cell 1 is so steep that the mass no longer stops in it.
		{"1,3,10:30,10,9", []int64{1, 0, 0}, []impl.Asset{assetOf("a", 9, 2)}, 150, 10, 2, 0}, {"1,3,10:30,10,9", []int64{1, 0, 0}, []impl.Asset{assetOf("a", 9, 2)}, 150, 18, 2, 0}, {"1,3,10:30,10,9", []int64{1, 0, 0}, []impl.Asset{assetOf("a", 9, 2)}, 150, 19, 1, 0},
		// The cell 4, where the mass begins, would do as well as the cell 7 if it could be raised.
		{"3,3,10:99,5,99,99,10,10,99,5,99", []int64{0, 0, 0, 0, 2, 0, 0, 0, 0}, []impl.Asset{assetOf("b", 50, 7)}, 1, 10, 7, 0},
		// The limits of friction and of the raise, and assets whose worth is as great as may be.
		{row, start, manyAssets(12, 1000000, 4), 1, 9, 1, 12000000}, {row, start, manyAssets(12, 1000000, 4), 1, 10, 1, 0}, {row, start, manyAssets(12, 1000000, 4), 5000, 100, 1, 0}, {row, start, manyAssets(12, 0, 4), 1, 9, 1, 0},
	} {
		checkBestDam(t, exposureCase{routeCase{gridFrom(t, known.text), known.masses}, known.list, known.friction, known.by}, known.cell, known.worth, impl.OK)
	}
}

// TestNoDamAtAll has masses in all cells, or in all that can be raised.
func TestNoDamAtAll(t *testing.T) {
	for _, known := range []struct {
		text   string
		masses []int64
		by     int64
	}{
		{"1,1,1:0", []int64{1}, 0}, {"1,1,1:0", []int64{1}, 100}, {"1,1,1:5000", []int64{0}, 1}, {"1,1,1:4901", []int64{0}, 100}, {"1,1,1:5000", []int64{1}, 1}, {"2,2,10:1,2,3,4", repeated(1, 4), 5}, {"3,3,10:100,100,100,90,80,90,70,60,75", repeated(1, 9), 30},
		{"2,2,10:5000,5000,5000,5000", repeated(0, 4), 1}, {"2,2,10:5000,5000,5000,5000", []int64{1, 0, 0, 0}, 100}, {"1,3,10:5000,4990,4980", []int64{1, 0, 0}, 21}, {"1,3,10:5000,4990,4980", []int64{0, 1, 1}, 1}, {"1,3,10:5000,4990,4980", []int64{0, 0, 1}, 11},
	} {
		g := gridFrom(t, known.text)
		for _, list := range [][]impl.Asset{nil, assetsIn(cellsOf(g)...)} {
			for _, friction := range []int64{1, 500, 5000} {
				checkBestDam(t, exposureCase{routeCase{g, known.masses}, list, friction, known.by}, 0, 0, impl.ErrNotFound)
			}
		}
	}
	for _, g := range []impl.Grid{flatGrid(8, 8, 5000), flatGrid(8, 8, 4901)} {
		checkBestDam(t, exposureCase{routeCase{g, repeated(0, 64)}, nil, 1, 100}, 0, 0, impl.ErrNotFound)
	}
}

// TestOneCellForADam has only one cell without a mass that can be raised, wherever it lies.
func TestOneCellForADam(t *testing.T) {
	for _, g := range []impl.Grid{flatGrid(1, 1, 40), flatGrid(2, 3, 40), flatGrid(8, 8, 40)} {
		for _, cell := range cellsOf(g) {
			masses, high := repeated(1, len(g.Heights)), flatGrid(g.Rows, g.Columns, 5000)
			masses[cell], high.Heights[cell] = 0, 4999
			list := []impl.Asset{assetOf("a", 5, cellsOf(g)...), assetOf("b", 3, cell)}
			// A single cell is not reached at all.
			worth := int64(5)
			if len(masses) == 1 {
				worth = 0
			}
			checkBestDam(t, exposureCase{routeCase{g, masses}, list, 1, 7}, cell, worth, impl.OK)
			checkBestDam(t, exposureCase{routeCase{high, repeated(0, len(masses))}, list, 1, 1}, cell, 0, impl.OK)
		}
	}
}

// TestRaisedCellsKeepTheirAssets shows that an asset in a cell with a dam is still reached from above.
func TestRaisedCellsKeepTheirAssets(t *testing.T) {
	g := gridFrom(t, "1,2,10:100,0")
	for by, worth := range map[int64]int64{0: 5, 1: 5, 99: 5, 100: 0} {
		checkBestDam(t, exposureCase{routeCase{g, []int64{1, 0}}, []impl.Asset{assetOf("a", 5, 1)}, 1, by}, 1, worth, impl.OK)
		raised, _ := impl.RaiseCell(g, 1, by)
		reached, code := impl.ReachedBy(raised, []int64{1, 0}, 1)
		want := []int64{0}
		if worth > 0 {
			want = []int64{0, 1}
		}
		checkNumbers(t, fmt.Sprint("ReachedBy with a dam of ", by), reached, code, want, impl.OK)
	}
}
