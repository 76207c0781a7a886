package tests

import (
	"fmt"
	"math/rand/v2"
	"slices"
	"testing"

	"loop.example/g01013/impl"
)

func assetOf(id string, worth int64, cells ...int64) impl.Asset {
	return impl.Asset{Id: id, Cells: cells, Worth: worth}
}

// assetsNamed returns assets with some names that are otherwise the same.
func assetsNamed(ids ...string) []impl.Asset {
	list := []impl.Asset{}
	for _, id := range ids {
		list = append(list, assetOf(id, 10, 0))
	}
	return list
}

// manyAssets returns so many assets in the same cells.
func manyAssets(count int, worth int64, cells ...int64) []impl.Asset {
	list := []impl.Asset{}
	for i := range count {
		list = append(list, assetOf(fmt.Sprintf("a%04d", i), worth, cells...))
	}
	return list
}

// assetsIn returns one asset in each cell, as long as there may be more, each one with another worth.
func assetsIn(cells ...int64) []impl.Asset {
	list := []impl.Asset{}
	for i, cell := range cells[:min(len(cells), impl.MaxAssets)] {
		list = append(list, assetOf(fmt.Sprintf("a%02d", i), 1<<i, cell))
	}
	return list
}

// mixedAssets returns assets in few and in many ones of some cells, often several in one cell.
func mixedAssets(mix *rand.Rand, among []int64) []impl.Asset {
	list := []impl.Asset{}
	for i := range mix.IntN(impl.MaxAssets + 1) {
		share := 1 + mix.IntN(8)
		cells := slices.DeleteFunc(slices.Clone(among), func(int64) bool { return mix.IntN(16) >= share })
		if len(cells) == 0 || share < 4 {
			cells = []int64{among[mix.IntN(len(among))]}
		}
		worth := []int64{0, 1, 7, 7, 100, impl.MaxWorth, mix.Int64N(1000), mix.Int64N(impl.MaxWorth + 1)}[mix.IntN(8)]
		list = append(list, assetOf(fmt.Sprintf("a%02d", i), worth, cells...))
	}
	return list
}

// goodAssetsOf holds lists of assets that are valid for a grid, from none to as many as may be.
func goodAssetsOf(g impl.Grid) [][]impl.Asset {
	last := int64(len(g.Heights)) - 1
	mix := rand.New(rand.NewPCG(15, uint64(last)))
	lists := [][]impl.Asset{
		nil, {}, {assetOf("a", 0, 0)}, {assetOf("a", impl.MaxWorth, 0)}, {assetOf("a", 1, last)}, {assetOf("a", 1, cellsOf(g)...)}, {assetOf("a", impl.MaxWorth-1, cellsOf(g)[:last/2+1]...)},
		manyAssets(impl.MaxAssets-1, 5, 0), manyAssets(impl.MaxAssets, 5, 0), manyAssets(impl.MaxAssets, impl.MaxWorth, cellsOf(g)...), assetsIn(cellsOf(g)...),
		assetsNamed("a", "b"), assetsNamed("a", "aa"), assetsNamed("a", "a0", "b"), assetsNamed("a1", "a10", "a2"), assetsNamed("a9", "aa"), assetsNamed("aaaaaaaaaa", "aaaaaaaaab", "zzzzzzzzzz"),
	}
	for _, id := range standNames() {
		lists = append(lists, assetsNamed(id))
	}
	for range 5 {
		lists = append(lists, mixedAssets(mix, cellsOf(g)))
	}
	return lists
}

// badAssetsOf holds assets of which the name, the worth or the cells are not as they must be in a grid.
func badAssetsOf(g impl.Grid) []impl.Asset {
	list := []impl.Asset{{}, {Id: "road"}, {Id: "road", Cells: []int64{}}, {Id: "road", Worth: 5}, {Cells: []int64{0}}}
	for _, id := range otherNames() {
		list = append(list, assetOf(id, 10, 0))
	}
	for _, worth := range append(otherNumbers(), -2, -1, impl.MaxWorth+1, impl.MaxWorth+2) {
		list = append(list, assetOf("road", worth, 0))
	}
	for _, cells := range badCellsOf(g) {
		list = append(list, assetOf("road", 10, cells...))
	}
	return list
}

// badAssetListsOf holds lists of assets that are too many, not as they must be in a grid, or not in the order of their names.
func badAssetListsOf(g impl.Grid) [][]impl.Asset {
	lists := [][]impl.Asset{
		manyAssets(impl.MaxAssets+1, 5, 0), manyAssets(impl.MaxAssets+2, 5, 0), manyAssets(5000, 5, 0), make([]impl.Asset, impl.MaxAssets), make([]impl.Asset, impl.MaxAssets+1),
		assetsNamed("a", "a"), assetsNamed("road", "road"), assetsNamed("b", "a"), assetsNamed("ab", "a"), assetsNamed("a1", "a0"), assetsNamed("aa", "a9"), assetsNamed("a10", "a1"), assetsNamed("a2", "a10"),
		assetsNamed("a", "b", "b"), assetsNamed("a", "a", "b"), assetsNamed("a", "c", "b"), assetsNamed("b", "a", "c"), assetsNamed("a", "b", "a"), assetsNamed("a", "d", "b", "e"), slices.Repeat(assetsNamed("a"), impl.MaxAssets),
	}
	last := manyAssets(impl.MaxAssets, 5, 0)
	last[impl.MaxAssets-1].Id = last[impl.MaxAssets-2].Id
	lists = append(lists, last)
	for _, x := range badAssetsOf(g) {
		first, middle := manyAssets(3, 5, 0), manyAssets(impl.MaxAssets, 5, 0)
		lists = append(lists, []impl.Asset{x}, append(assetsNamed("a"), x), append([]impl.Asset{x}, assetsNamed("z")...))
		// With a name of its place, only the rest is wrong.
		if impl.IsName(x.Id) {
			first[0].Cells, first[0].Worth = x.Cells, x.Worth
			middle[6].Cells, middle[6].Worth = x.Cells, x.Worth
			lists = append(lists, first, middle)
		}
	}
	return lists
}

// exposedGrids holds grids of the least, the greatest and some other numbers of cells.
func exposedGrids() []impl.Grid {
	return []impl.Grid{answeredGrid(), flatGrid(1, 1, 5), flatGrid(1, 8, 5), flatGrid(8, 1, 5), flatGrid(7, 7, 5), flatGrid(8, 8, 5)}
}

func TestConstantsOfExposure(t *testing.T) {
	if impl.MaxAssets != 12 || impl.MaxWorth != 1000000 || impl.MaxRaise != 100 {
		t.Error(impl.MaxAssets, impl.MaxWorth, impl.MaxRaise)
	}
}

func TestValidAssets(t *testing.T) {
	for _, g := range exposedGrids() {
		for _, list := range goodAssetsOf(g) {
			if !impl.ValidAssets(g, list) {
				t.Errorf("ValidAssets(%v, %v) = false", g, list)
			}
		}
		for _, list := range badAssetListsOf(g) {
			if impl.ValidAssets(g, list) {
				t.Errorf("ValidAssets(%v, %.200v) = true", g, list)
			}
		}
	}
}

// TestValidAssetsOfBadGrids has assets in no cell but the first one, and none at all.
func TestValidAssetsOfBadGrids(t *testing.T) {
	for _, g := range badGrids() {
		for _, list := range [][]impl.Asset{nil, {}, assetsNamed("a"), assetsNamed("a", "b"), manyAssets(impl.MaxAssets, 5, 0), {{}}} {
			if impl.ValidAssets(g, list) {
				t.Errorf("ValidAssets(%.200v, %v) = true", g, list)
			}
		}
	}
}

func TestValidAssetsOfEachNumber(t *testing.T) {
	for count := range 40 {
		if got := impl.ValidAssets(answeredGrid(), manyAssets(count, 5, 0)); got != (count <= 12) {
			t.Errorf("ValidAssets of %d assets = %v", count, got)
		}
	}
	for _, worth := range append(otherNumbers(), -2, -1, 0, 1, 999999, 1000000, 1000001) {
		if got := impl.ValidAssets(answeredGrid(), []impl.Asset{assetOf("a", worth, 0)}); got != (worth >= 0 && worth <= 1000000) {
			t.Errorf("ValidAssets with the worth %d = %v", worth, got)
		}
	}
}

// TestValidAssetsOfEachCell asks about the same cells in grids that have them and in others.
func TestValidAssetsOfEachCell(t *testing.T) {
	for count := int64(1); count <= 8; count++ {
		for _, g := range []impl.Grid{flatGrid(1, count, 5), flatGrid(count, 1, 5), flatGrid(8, count, 5)} {
			cells := int64(len(g.Heights))
			for cell := int64(-3); cell <= 70; cell++ {
				if got := impl.ValidAssets(g, []impl.Asset{assetOf("a", 1, cell)}); got != (cell >= 0 && cell < cells) {
					t.Errorf("ValidAssets of %d cells with the cell %d = %v", cells, cell, got)
				}
				if got := impl.ValidAssets(g, []impl.Asset{assetOf("a", 1, 0, cell)}); got != (cell > 0 && cell < cells) {
					t.Errorf("ValidAssets of %d cells with the cells 0 and %d = %v", cells, cell, got)
				}
			}
		}
	}
}

func TestValidAssetsOfAllPairsOfNames(t *testing.T) {
	names := []string{"a", "a0", "a00", "a1", "a10", "a2", "aa", "ab", "b", "b0", "ba", "road", "shed", "z", "zzzzzzzzzz"}
	for i, first := range names {
		for k, second := range names {
			if got := impl.ValidAssets(answeredGrid(), assetsNamed(first, second)); got != (i < k) {
				t.Errorf("ValidAssets of %q and %q = %v", first, second, got)
			}
		}
	}
}

// TestAssetsMayShareCells has no order of cells, of worths or of numbers of cells among assets.
func TestAssetsMayShareCells(t *testing.T) {
	for _, list := range [][]impl.Asset{
		{assetOf("a", 1, 5), assetOf("b", 1, 0)}, {assetOf("a", 1, 3), assetOf("b", 1, 3)}, {assetOf("a", 9, 0, 1, 2), assetOf("b", 0, 1), assetOf("c", 9, 0, 1, 2)}, {assetOf("a", 0, 5), assetOf("b", 0, 0, 5)},
	} {
		if !impl.ValidAssets(answeredGrid(), list) {
			t.Errorf("ValidAssets(%v) = false", list)
		}
	}
}
