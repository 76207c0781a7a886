package tests

import (
	"fmt"
	"math/rand/v2"
	"slices"
	"testing"

	"loop.example/g01013/impl"
)

// exposedAsTold returns the indices of the assets one of whose cells is reached.
func exposedAsTold(list []impl.Asset, reached []int64) []int64 {
	exposed := []int64{}
	for i, x := range list {
		if slices.ContainsFunc(x.Cells, func(cell int64) bool { return slices.Contains(reached, cell) }) {
			exposed = append(exposed, int64(i))
		}
	}
	return exposed
}

// worthAsTold returns the worth of the assets one of whose cells is reached.
func worthAsTold(list []impl.Asset, reached []int64) int64 {
	worth := int64(0)
	for _, i := range exposedAsTold(list, reached) {
		worth += list[i].Worth
	}
	return worth
}

func checkExposed(t *testing.T, g impl.Grid, list []impl.Asset, reached, want []int64, wantWorth int64) {
	t.Helper()
	what := fmt.Sprint(" of ", list, " and ", reached)
	got, code := impl.ExposedAssets(g, list, reached)
	checkNumbers(t, "ExposedAssets"+what, got, code, want, impl.OK)
	worth, code := impl.ExposedWorth(g, list, reached)
	checkCoded(t, "ExposedWorth"+what, worth, code, wantWorth, impl.OK)
}

func TestExposedAssets(t *testing.T) {
	for _, g := range append(exposedGrids(), mixedGrids(1)...) {
		for _, list := range goodAssetsOf(g) {
			for _, reached := range someCellsOf(g) {
				checkExposed(t, g, list, reached, exposedAsTold(list, reached), worthAsTold(list, reached))
			}
		}
	}
}

// TestExposedAssetsOfAllCells has each set of reached cells of a small grid.
func TestExposedAssetsOfAllCells(t *testing.T) {
	mix := rand.New(rand.NewPCG(151, 2026))
	for _, g := range smallShapes() {
		lists := [][]impl.Asset{assetsIn(cellsOf(g)...), mixedAssets(mix, cellsOf(g)), mixedAssets(mix, cellsOf(g))}
		for _, reached := range allCellsOf(g) {
			for _, list := range lists {
				checkExposed(t, g, list, reached, exposedAsTold(list, reached), worthAsTold(list, reached))
			}
		}
	}
}

func TestKnownExposedAssets(t *testing.T) {
	g := flatGrid(2, 3, 7)
	road, shed, lift := assetOf("road", 100, 3, 4), assetOf("shed", 40, 5), assetOf("lift", 7, 0, 2, 4)
	for _, known := range []struct {
		list          []impl.Asset
		reached, want []int64
		worth         int64
	}{
		// The road is that of the example.
		{[]impl.Asset{road}, []int64{4}, []int64{0}, 100}, {[]impl.Asset{road}, []int64{3}, []int64{0}, 100}, {[]impl.Asset{road}, []int64{3, 4}, []int64{0}, 100}, {[]impl.Asset{road}, []int64{0, 1, 2, 5}, nil, 0}, {[]impl.Asset{road}, nil, nil, 0},
		{[]impl.Asset{road, shed}, []int64{5}, []int64{1}, 40}, {[]impl.Asset{road, shed}, []int64{4, 5}, []int64{0, 1}, 140}, {[]impl.Asset{road, shed}, []int64{0, 1, 2, 3, 4, 5}, []int64{0, 1}, 140}, {[]impl.Asset{road, shed}, []int64{}, nil, 0},
		// Only the first cell, only one in the middle, and only the last cell of an asset is reached.
		{[]impl.Asset{lift}, []int64{0}, []int64{0}, 7}, {[]impl.Asset{lift}, []int64{2}, []int64{0}, 7}, {[]impl.Asset{lift}, []int64{4}, []int64{0}, 7}, {[]impl.Asset{lift}, []int64{1, 3, 5}, nil, 0}, {[]impl.Asset{lift}, []int64{1, 3, 4}, []int64{0}, 7},
		// Several assets in one cell, each of which counts once however many of its cells are reached.
		{[]impl.Asset{lift, road}, []int64{4}, []int64{0, 1}, 107}, {[]impl.Asset{lift, road}, []int64{0, 2, 3, 4}, []int64{0, 1}, 107}, {manyAssets(12, 1000000, 1), []int64{1}, []int64{0, 1, 2, 3, 4, 5, 6, 7, 8, 9, 10, 11}, 12000000}, {manyAssets(12, 1000000, 0, 1, 2, 3, 4, 5), []int64{0, 1, 2, 3, 4, 5}, []int64{0, 1, 2, 3, 4, 5, 6, 7, 8, 9, 10, 11}, 12000000},
		// An asset without a worth is exposed, too.
		{[]impl.Asset{assetOf("a", 0, 1), assetOf("b", 5, 1)}, []int64{1}, []int64{0, 1}, 5}, {[]impl.Asset{assetOf("a", 0, 1)}, []int64{1}, []int64{0}, 0},
		// The order is that of the assets, not of the cells.
		{[]impl.Asset{assetOf("a", 1, 5), assetOf("b", 2, 0), assetOf("c", 4, 3)}, []int64{0, 3, 5}, []int64{0, 1, 2}, 7}, {[]impl.Asset{assetOf("a", 1, 5), assetOf("b", 2, 0), assetOf("c", 4, 3)}, []int64{0, 5}, []int64{0, 1}, 3}, {[]impl.Asset{assetOf("a", 1, 5), assetOf("b", 2, 0), assetOf("c", 4, 3)}, []int64{3, 5}, []int64{0, 2}, 5},
		{nil, nil, nil, 0}, {nil, []int64{0, 1, 2, 3, 4, 5}, nil, 0}, {[]impl.Asset{}, []int64{4}, nil, 0},
	} {
		checkExposed(t, g, known.list, known.reached, known.want, known.worth)
	}
}

// TestExposedAssetsHaveReachedCells is the first half of the sixteenth promise, with cells that masses reach.
func TestExposedAssetsHaveReachedCells(t *testing.T) {
	exposed, safe := 0, 0
	for _, c := range exposureCases(300) {
		reached, _ := impl.ReachedBy(c.g, c.masses, c.friction)
		indices, code := impl.ExposedAssets(c.g, c.assets, reached)
		if code != impl.OK || !slices.IsSorted(indices) {
			t.Errorf("ExposedAssets of %v = %v, %d", c, indices, code)
		}
		worth := int64(0)
		for i, x := range c.assets {
			isReached := slices.ContainsFunc(x.Cells, func(cell int64) bool { return slices.Contains(reached, cell) })
			if isReached != slices.Contains(indices, int64(i)) {
				t.Errorf("of %v, %v are exposed to %v", c.assets, indices, reached)
			}
			if isReached {
				exposed++
				worth += x.Worth
			} else {
				safe++
			}
		}
		got, code := impl.ExposedWorth(c.g, c.assets, reached)
		checkCoded(t, fmt.Sprint("ExposedWorth of ", c), got, code, worth, impl.OK)
	}
	if exposed < 300 || safe < 300 {
		t.Errorf("only %d assets are exposed, and %d are not", exposed, safe)
	}
}

func TestSafeCells(t *testing.T) {
	for _, g := range append(smallShapes(), goodGrids()...) {
		sets := someCellsOf(g)
		if len(g.Heights) <= 9 {
			sets = append(sets, allCellsOf(g)...)
		}
		for _, reached := range sets {
			want := cellsWhere(g, func(cell int64) bool { return !slices.Contains(reached, cell) })
			got, code := impl.SafeCells(g, reached)
			checkNumbers(t, fmt.Sprint("SafeCells of ", g, reached), got, code, want, impl.OK)
		}
	}
}

func TestKnownSafeCells(t *testing.T) {
	for _, known := range []struct {
		g             impl.Grid
		reached, want []int64
	}{
		{flatGrid(1, 1, 5), nil, []int64{0}}, {flatGrid(1, 1, 5), []int64{0}, nil}, {flatGrid(2, 3, 5), nil, []int64{0, 1, 2, 3, 4, 5}}, {flatGrid(2, 3, 5), []int64{0, 1, 2, 3, 4, 5}, nil}, {flatGrid(2, 3, 5), []int64{0}, []int64{1, 2, 3, 4, 5}}, {flatGrid(2, 3, 5), []int64{5}, []int64{0, 1, 2, 3, 4}}, {flatGrid(2, 3, 5), []int64{1, 2, 4}, []int64{0, 3, 5}},
		{flatGrid(3, 3, 5), []int64{1, 4, 7}, []int64{0, 2, 3, 5, 6, 8}}, {flatGrid(8, 8, 5), cellsOf(flatGrid(8, 8, 5))[1:], []int64{0}}, {flatGrid(8, 8, 5), cellsOf(flatGrid(8, 8, 5))[:63], []int64{63}}, {flatGrid(8, 8, 5), cellsOf(flatGrid(8, 8, 5)), nil},
	} {
		got, code := impl.SafeCells(known.g, known.reached)
		checkNumbers(t, fmt.Sprint("SafeCells of ", known), got, code, known.want, impl.OK)
	}
}

func TestBuriedBy(t *testing.T) {
	mix := rand.New(rand.NewPCG(152, 2026))
	for _, g := range append(exposedGrids(), mixedGrids(1)...) {
		for _, list := range goodAssetsOf(g) {
			for _, settled := range [][]int64{repeated(0, len(g.Heights)), repeated(1, len(g.Heights)), repeated(impl.MaxMass, len(g.Heights)), mixedMasses(mix, len(g.Heights))} {
				want := []int64{}
				for _, x := range list {
					sum := int64(0)
					for _, cell := range x.Cells {
						sum += settled[cell]
					}
					want = append(want, sum)
				}
				got, code := impl.BuriedBy(g, list, settled)
				checkNumbers(t, fmt.Sprint("BuriedBy of ", list, " and ", settled), got, code, want, impl.OK)
			}
		}
	}
}

func TestKnownBurials(t *testing.T) {
	g := flatGrid(2, 3, 7)
	for _, known := range []struct {
		list          []impl.Asset
		settled, want []int64
	}{
		{nil, []int64{1, 2, 3, 4, 5, 6}, nil}, {[]impl.Asset{assetOf("a", 9, 0)}, []int64{1, 2, 3, 4, 5, 6}, []int64{1}}, {[]impl.Asset{assetOf("a", 9, 5)}, []int64{1, 2, 3, 4, 5, 6}, []int64{6}}, {[]impl.Asset{assetOf("a", 0, 1, 3, 5)}, []int64{1, 20, 3, 400, 5, 6000}, []int64{6420}}, {[]impl.Asset{assetOf("a", 9, 0, 1, 2, 3, 4, 5)}, []int64{1, 2, 3, 4, 5, 6}, []int64{21}},
		// The list has a number for each asset, also where nothing has settled, and what lies in one cell counts for all in it.
		{[]impl.Asset{assetOf("a", 9, 0), assetOf("b", 9, 1), assetOf("c", 9, 2)}, []int64{0, 7, 0, 9, 9, 9}, []int64{0, 7, 0}}, {[]impl.Asset{assetOf("a", 9, 0, 1), assetOf("b", 9, 1, 2), assetOf("c", 9, 1)}, []int64{1, 20, 300, 0, 0, 0}, []int64{21, 320, 20}}, {[]impl.Asset{assetOf("a", 9, 0, 1), assetOf("b", 9, 5)}, repeated(0, 6), []int64{0, 0}}, {manyAssets(12, 0, 4), []int64{0, 0, 0, 0, 8, 0}, repeated(8, 12)},
		{[]impl.Asset{assetOf("a", 9, 0, 1, 2, 3, 4, 5), assetOf("b", 9, 3)}, repeated(1000000, 6), []int64{6000000, 1000000}},
	} {
		got, code := impl.BuriedBy(g, known.list, known.settled)
		checkNumbers(t, fmt.Sprint("BuriedBy of ", known), got, code, known.want, impl.OK)
	}
}

// TestBuriedAssetsAreExposed compares what settles on assets with the cells that are reached.
func TestBuriedAssetsAreExposed(t *testing.T) {
	for _, c := range exposureCases(100) {
		settled, _, _ := impl.RunMass(c.g, c.masses, c.friction)
		if slices.Max(settled) > impl.MaxMass {
			continue
		}
		reached, _ := impl.ReachedBy(c.g, c.masses, c.friction)
		exposed, _ := impl.ExposedAssets(c.g, c.assets, reached)
		buried, code := impl.BuriedBy(c.g, c.assets, settled)
		for i, mass := range buried {
			if code != impl.OK || mass > 0 && !slices.Contains(exposed, int64(i)) {
				t.Errorf("of %v, %v are exposed, and %v, %d is buried", c, exposed, buried, code)
			}
		}
	}
}
