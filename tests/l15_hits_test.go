package tests

import (
	"fmt"
	"math/rand/v2"
	"slices"
	"testing"

	"loop.example/g01013/impl"
)

// exposureCase holds assets in the way of masses, and by how much a dam would raise a cell.
type exposureCase struct {
	routeCase
	assets       []impl.Asset
	friction, by int64
}

// liftedTo returns a grid of the same form whose highest cell has a height.
func liftedTo(g impl.Grid, height int64) impl.Grid {
	lifted := copyOfGrid(g)
	for cell := range lifted.Heights {
		lifted.Heights[cell] += height - slices.Max(g.Heights)
	}
	return lifted
}

// placesFor returns the cells without a mass, or all cells if there is none of these, and in every second case.
func placesFor(mix *rand.Rand, c routeCase) []int64 {
	cells := cellsWhere(c.g, func(cell int64) bool { return c.masses[cell] == 0 })
	if len(cells) == 0 || mix.IntN(2) == 0 {
		return cellsOf(c.g)
	}
	return cells
}

// exposureCases holds so many cases that are always the same, in grids of few cells, some of which are as high as may be.
func exposureCases(count int) []exposureCase {
	mix := rand.New(rand.NewPCG(1515, 2026))
	cases := []exposureCase{}
	for _, c := range smallRoutes(count) {
		if mix.IntN(3) == 0 {
			c.g = liftedTo(c.g, impl.MaxAlt-mix.Int64N(10))
		}
		friction := []int64{1, 1, 100, 500, 1000, 1 + mix.Int64N(300), 1 + mix.Int64N(5000)}[mix.IntN(7)]
		by := []int64{0, 1, 2, 5, 10, 20, 100, mix.Int64N(101)}[mix.IntN(8)]
		cases = append(cases, exposureCase{c, mixedAssets(mix, placesFor(mix, c)), friction, by})
	}
	return cases
}

// largeExposures holds cases in all grids of the thirteenth chapter.
func largeExposures() []exposureCase {
	mix := rand.New(rand.NewPCG(1516, 2026))
	cases := []exposureCase{}
	for _, c := range routeCases(1) {
		frictions := []int64{1, 1 + mix.Int64N(500), 1 + mix.Int64N(5000)}
		cases = append(cases, exposureCase{c, mixedAssets(mix, placesFor(mix, c)), frictions[mix.IntN(3)], mix.Int64N(101)})
	}
	return cases
}

// firstHitAsTold looks at all cells of all assets; arrivals holds -1 for a cell that is not reached.
func firstHitAsTold(list []impl.Asset, arrivals []int64) (asset, step, code int64) {
	code = impl.ErrNotFound
	for i, x := range list {
		for _, cell := range x.Cells {
			if first := arrivals[cell]; first >= 0 && (code != impl.OK || first < step) {
				asset, step, code = int64(i), first, impl.OK
			}
		}
	}
	return asset, step, code
}

func checkFirstHit(t *testing.T, c exposureCase, wantAsset, wantStep, wanted int64) {
	t.Helper()
	asset, step, code := impl.FirstHit(c.g, c.assets, c.masses, c.friction)
	if asset != wantAsset || step != wantStep || code != wanted {
		t.Errorf("FirstHit of %v = %d, %d, %d, want %d, %d, %d", c, asset, step, code, wantAsset, wantStep, wanted)
	}
}

func TestFirstHit(t *testing.T) {
	hits, later, missed := 0, 0, 0
	for _, c := range append(exposureCases(1500), largeExposures()...) {
		arrivals := runDown(waysDownAsTold(c.g), c.masses, c.friction).arrivals
		asset, step, wanted := firstHitAsTold(c.assets, arrivals)
		checkFirstHit(t, c, asset, step, wanted)
		switch {
		case wanted != impl.OK:
			missed++
		case asset > 0 && step > 0:
			later++
		default:
			hits++
		}
	}
	if hits < 100 || later < 100 || missed < 100 {
		t.Errorf("only %d and %d hits, and %d cases without one", hits, later, missed)
	}
}

// TestFirstHitIsTheLeastArrival compares it with what ArrivalOf says of each cell.
func TestFirstHitIsTheLeastArrival(t *testing.T) {
	for _, c := range exposureCases(400) {
		arrivals := repeated(-1, len(c.masses))
		for _, cell := range cellsOf(c.g) {
			if first, code := impl.ArrivalOf(c.g, c.masses, c.friction, cell); code == impl.OK {
				arrivals[cell] = first
			}
		}
		asset, step, wanted := firstHitAsTold(c.assets, arrivals)
		checkFirstHit(t, c, asset, step, wanted)
		reached, _ := impl.ReachedBy(c.g, c.masses, c.friction)
		if exposed, _ := impl.ExposedAssets(c.g, c.assets, reached); wanted == impl.OK != (len(exposed) > 0) {
			t.Errorf("of %v, %v are exposed, and the code is %d", c, exposed, wanted)
		}
	}
}

func TestKnownFirstHits(t *testing.T) {
	bowl := gridFrom(t, "3,3,10:100,100,100,90,80,90,70,60,75")
	slab := oneMass(bowl, 1, 100)
	for _, known := range []struct {
		masses   []int64
		friction int64
		cells    [][]int64
		asset    int64
		step     int64
		wanted   int64
	}{
		// With the friction 800, the cells 1, 4 and 7 are reached by the steps 0, 1 and 2.
		{slab, 800, [][]int64{{7, 8}, {3}}, 0, 2, impl.OK}, {slab, 800, [][]int64{{3}, {7, 8}}, 1, 2, impl.OK}, {slab, 800, [][]int64{{7}, {4}}, 1, 1, impl.OK}, {slab, 800, [][]int64{{4}, {7}}, 0, 1, impl.OK}, {slab, 800, [][]int64{{7}, {4}, {1}}, 2, 0, impl.OK},
		// The step 0 is that of a mass at the beginning.
		{slab, 800, [][]int64{{1}}, 0, 0, impl.OK}, {slab, 800, [][]int64{{4, 7}, {0, 1}}, 1, 0, impl.OK}, {slab, 800, [][]int64{{1, 4}, {1}}, 0, 0, impl.OK}, {slab, 2001, [][]int64{{4}, {1}}, 1, 0, impl.OK}, {repeated(1, 9), 5000, [][]int64{{8}, {0}}, 0, 0, impl.OK},
		// Two assets are hit in the same step: in one cell, and in several ones.
		{slab, 800, [][]int64{{7}, {7}}, 0, 2, impl.OK}, {slab, 800, [][]int64{{0}, {7, 8}, {6, 7}}, 1, 2, impl.OK}, {slab, 300, [][]int64{{5}, {4}, {3}}, 0, 1, impl.OK}, {slab, 300, [][]int64{{0}, {5}, {3}}, 1, 1, impl.OK}, {slab, 300, [][]int64{{8}, {6}, {7}}, 0, 2, impl.OK},
		// Only the last cell of an asset is reached, or it is the one that is reached first.
		{slab, 800, [][]int64{{0, 2, 3, 5, 6, 7}}, 0, 2, impl.OK}, {slab, 800, [][]int64{{0, 8}, {2, 3, 4}}, 1, 1, impl.OK}, {slab, 300, [][]int64{{7, 8}, {0, 2, 5}}, 1, 1, impl.OK}, {[]int64{0, 0, 0, 0, 0, 0, 0, 0, 9}, 1, [][]int64{{7}, {0, 1, 8}}, 1, 0, impl.OK},
		// None is reached.
		{slab, 800, [][]int64{{3}}, 0, 0, impl.ErrNotFound}, {slab, 800, [][]int64{{0, 2}, {3, 5, 6, 8}}, 0, 0, impl.ErrNotFound}, {slab, 2001, [][]int64{{4, 7}}, 0, 0, impl.ErrNotFound}, {slab, 800, nil, 0, 0, impl.ErrNotFound}, {repeated(0, 9), 1, [][]int64{{0, 1, 2, 3, 4, 5, 6, 7, 8}}, 0, 0, impl.ErrNotFound}, {repeated(0, 9), 1, nil, 0, 0, impl.ErrNotFound},
		// The limits of the friction.
		{slab, 1, [][]int64{{8}, {6}}, 0, 2, impl.OK}, {slab, 5000, [][]int64{{4}, {1}}, 1, 0, impl.OK}, {slab, 5000, [][]int64{{4}}, 0, 0, impl.ErrNotFound}, {slab, 2000, [][]int64{{4}}, 0, 1, impl.OK},
	} {
		list := []impl.Asset{}
		for i, cells := range known.cells {
			list = append(list, assetOf(fmt.Sprintf("a%d", i), 5, cells...))
		}
		checkFirstHit(t, exposureCase{routeCase{bowl, known.masses}, list, known.friction, 0}, known.asset, known.step, known.wanted)
	}
}

// TestFirstHitOfAnAssetWithoutWorth has assets whose worth and order do not go together.
func TestFirstHitOfAnAssetWithoutWorth(t *testing.T) {
	row := gridOf(1, 4, 10, 30, 20, 10, 0)
	for _, worths := range [][2]int64{{0, 0}, {0, impl.MaxWorth}, {impl.MaxWorth, 0}} {
		list := []impl.Asset{assetOf("a", worths[0], 3), assetOf("b", worths[1], 1)}
		checkFirstHit(t, exposureCase{routeCase{row, oneMass(row, 0, 1)}, list, 1, 0}, 1, 1, impl.OK)
	}
}

// TestLateHits follows a mass along a row, where each cell is hit one step later.
func TestLateHits(t *testing.T) {
	row := gridOf(1, 8, 10, 80, 70, 60, 50, 40, 30, 20, 10)
	for start := range int64(8) {
		for cell := range int64(8) {
			step, wanted := cell-start, int64(impl.OK)
			if cell < start {
				step, wanted = 0, impl.ErrNotFound
			}
			c := exposureCase{routeCase{row, oneMass(row, start, 3)}, []impl.Asset{assetOf("a", 5, cell)}, 1000, 0}
			checkFirstHit(t, c, 0, step, wanted)
		}
	}
}
