package tests

import (
	"slices"
	"testing"

	"loop.example/g01013/impl"
)

// leastIndicesAsTold returns the lesser bound of the index of each layer under a further load.
func leastIndicesAsTold(list []impl.Layer, rise, run, doubt, further int64) []int64 {
	indices := []int64{}
	for k, x := range list {
		least, _ := indexAsTold(x, further+loadAsTold(list, k), rise, run, doubt)
		indices = append(indices, least)
	}
	return indices
}

// weakestAsTold returns the first layer that no layer below is as weak as, and no layer above weaker than.
func weakestAsTold(list []impl.Layer, rise, run, doubt int64) (int64, int64) {
	indices := leastIndicesAsTold(list, rise, run, doubt, 0)
	for k, least := range indices {
		if !slices.ContainsFunc(indices[:k], func(n int64) bool { return n <= least }) && !slices.ContainsFunc(indices[k:], func(n int64) bool { return n < least }) {
			return int64(k), least
		}
	}
	return -1, -1
}

// checkWeakest checks WeakestLayer, and SlabOf of the same layer.
func checkWeakest(t *testing.T, list []impl.Layer, rise, run, doubt, want, wantLeast int64) {
	t.Helper()
	k, least, code := impl.WeakestLayer(list, rise, run, doubt)
	checkBounds(t, "WeakestLayer", k, least, code, want, wantLeast, impl.OK)
	slab := int64(0)
	for _, x := range list[want+1:] {
		slab += thicknessAsTold(x)
	}
	got, code := impl.SlabOf(list, rise, run, doubt)
	checkCoded(t, "SlabOf", got, code, slab, impl.OK)
}

// layersFrom returns a profile with a form and a density for each layer, and 20000 grams of ice in each.
func layersFrom(pairs ...[2]int64) []impl.Layer {
	list := []impl.Layer{}
	for _, pair := range pairs {
		list = append(list, impl.Layer{Form: pair[0], Ice: 20000, Density: pair[1], Hardness: 1})
	}
	return list
}

func TestKnownWeakestLayers(t *testing.T) {
	hoar, round, facet := [2]int64{impl.FoHoar, 200}, [2]int64{impl.FoRound, 200}, [2]int64{impl.FoFacet, 200}
	for _, c := range []struct {
		pairs              [][2]int64
		k, least, slabOver int64
	}{
		// At the ground, in the middle, and below the top layer, each with the slab above it.
		{[][2]int64{hoar, round, round}, 0, 1632, 200}, {[][2]int64{round, hoar, round}, 1, 3265, 100}, {[][2]int64{round, round, hoar, round}, 2, 3265, 100}, {[][2]int64{round, hoar, round, round}, 1, 1632, 200},
		// A layer that is stronger may be weaker for its load, or not.
		{[][2]int64{round, round, round}, 0, 6122, 200}, {[][2]int64{facet, hoar, round}, 0, 2448, 200}, {[][2]int64{facet, facet, hoar, round}, 0, 1632, 300}, {[][2]int64{facet, round, hoar, round}, 0, 1632, 300},
		// The top layer has no stress, however weak it is.
		{[][2]int64{round, {impl.FoHoar, 30}}, 0, 12244, 667}, {[][2]int64{{impl.FoHoar, 30}}, 0, 1000000, 0}, {[][2]int64{round}, 0, 1000000, 0},
	} {
		list := layersFrom(c.pairs...)
		k, least, code := impl.WeakestLayer(list, 1, 1, 0)
		checkBounds(t, "WeakestLayer", k, least, code, c.k, c.least, impl.OK)
		slab, code := impl.SlabOf(list, 1, 1, 0)
		checkCoded(t, "SlabOf", slab, code, c.slabOver, impl.OK)
	}
}

// TestFirstOfTheWeakestLayers has layers whose indices are equal, because stresses and indices are rounded.
func TestFirstOfTheWeakestLayers(t *testing.T) {
	grain := func(form, density int64) impl.Layer {
		return impl.Layer{Form: form, Ice: 1, Density: density, Hardness: 1}
	}
	heavy := underLoad(thinLayer(), 200000)[1:]
	for _, c := range []struct {
		thin []impl.Layer
		k    int64
	}{
		{[]impl.Layer{grain(5, 100), grain(5, 100)}, 0}, {[]impl.Layer{grain(3, 100), grain(5, 100), grain(5, 100)}, 1}, {[]impl.Layer{grain(5, 100), grain(3, 100), grain(5, 100)}, 0},
		{[]impl.Layer{grain(5, 100), grain(5, 99), grain(5, 100)}, 1}, {[]impl.Layer{grain(5, 100), grain(5, 101), grain(5, 99)}, 2}, {[]impl.Layer{grain(1, 35), grain(5, 56), grain(5, 60)}, 0}, {[]impl.Layer{grain(5, 60), grain(5, 56), grain(1, 35)}, 1},
	} {
		list := slices.Concat(c.thin, heavy)
		_, least := weakestAsTold(list, 1, 1, 0)
		checkWeakest(t, list, 1, 1, 0, c.k, least)
		// With the greatest doubt no layer has a strength for sure, and without a rise none has a stress.
		checkWeakest(t, list, 1, 1, 1000, 0, 0)
		checkWeakest(t, list, 0, 1, 1000, 0, 1000000)
	}
}

func TestWeakestLayerOfManyProfiles(t *testing.T) {
	for _, list := range stabilityProfiles() {
		if len(list) == 0 {
			continue
		}
		for _, slope := range someSlopes() {
			for _, doubt := range []int64{0, 200, 1000} {
				k, least := weakestAsTold(list, slope[0], slope[1], doubt)
				checkWeakest(t, list, slope[0], slope[1], doubt, k, least)
			}
		}
	}
}

// TestSlabIsTheHeightAbove takes the height of the layers above the weakest one as a profile of their own.
func TestSlabIsTheHeightAbove(t *testing.T) {
	for _, list := range stabilityProfiles() {
		k, _, code := impl.WeakestLayer(list, 60, 100, 300)
		if code != impl.OK {
			continue
		}
		want, wanted := impl.HeightOf(list[k+1:])
		got, code := impl.SlabOf(list, 60, 100, 300)
		checkCoded(t, "SlabOf", got, code, want, wanted)
	}
}

// TestSlabsOfThinLayers has layers whose thickness is rounded for each of them.
func TestSlabsOfThinLayers(t *testing.T) {
	for _, c := range [][2]int64{{14, 0}, {15, 15}, {44, 15}, {45, 30}} {
		slab := layersOf(impl.Layer{Form: impl.FoMelt, Ice: c[0], Water: 1000000, Density: 30, Hardness: 1}, 15)
		checkWeakest(t, append([]impl.Layer{layerWith(impl.FoHoar, 30)}, slab...), 1, 1, 0, 0, 0)
		got, code := impl.SlabOf(append([]impl.Layer{layerWith(impl.FoHoar, 30)}, slab...), 1, 1, 0)
		checkCoded(t, "SlabOf thin layers", got, code, c[1], impl.OK)
	}
}

func TestProfilesWithoutLayers(t *testing.T) {
	for _, list := range [][]impl.Layer{nil, {}} {
		for _, slope := range someSlopes() {
			for _, doubt := range []int64{0, 1000} {
				k, least, code := impl.WeakestLayer(list, slope[0], slope[1], doubt)
				checkBounds(t, "WeakestLayer of no layers", k, least, code, 0, 0, impl.ErrNotFound)
				slab, code := impl.SlabOf(list, slope[0], slope[1], doubt)
				checkCoded(t, "SlabOf no layers", slab, code, 0, impl.ErrNotFound)
				for _, limit := range []int64{0, 1000, impl.MaxIndex} {
					if !impl.IsStable(list, slope[0], slope[1], doubt, limit) {
						t.Errorf("no layers are not stable with %v, %d and %d", slope, doubt, limit)
					}
					load, code := impl.MoreLoad(list, slope[0], slope[1], doubt, limit)
					checkCoded(t, "MoreLoad of no layers", load, code, 0, impl.ErrNotFound)
					rise, code := impl.SteepestFor(list, slope[1], doubt, limit)
					checkCoded(t, "SteepestFor no layers", rise, code, slope[1], impl.OK)
				}
			}
		}
	}
}

// limitsAround holds limits from 0 to MaxIndex, and those that a bound reaches just or just not.
func limitsAround(bound int64) []int64 {
	limits := []int64{0, 1, 1000, 1500, 999999, 1000000}
	for _, limit := range []int64{bound - 1, bound, bound + 1} {
		if limit >= 0 && limit <= 1000000 {
			limits = append(limits, limit)
		}
	}
	return limits
}

func TestIsStableUpToTheWeakestLayer(t *testing.T) {
	for _, list := range stabilityProfiles() {
		for _, slope := range someSlopes() {
			for _, doubt := range []int64{0, 200, 1000} {
				indices := leastIndicesAsTold(list, slope[0], slope[1], doubt, 0)
				least := int64(1000000)
				for _, index := range indices {
					least = min(least, index)
				}
				for _, limit := range limitsAround(least) {
					if got := impl.IsStable(list, slope[0], slope[1], doubt, limit); got != (limit <= least) {
						t.Errorf("IsStable(%v, %v, %d, %d) = %v, though the least bound is %d", list, slope, doubt, limit, got, least)
					}
				}
			}
		}
	}
}

func TestKnownStability(t *testing.T) {
	list := layersFrom([2]int64{impl.FoRound, 200}, [2]int64{impl.FoHoar, 200}, [2]int64{impl.FoRound, 200})
	for _, c := range []struct {
		rise, doubt, limit int64
		want               bool
	}{
		{100, 0, 3265, true}, {100, 0, 3266, false}, {100, 0, 0, true}, {100, 0, 1000000, false}, {100, 1000, 0, true}, {100, 1000, 1, false}, {100, 100, 2938, true}, {100, 100, 2939, false},
		{0, 0, 1000000, true}, {0, 1000, 1000000, true}, {1, 0, 160000, true}, {1, 0, 160001, false}, {1000, 0, 16000, true}, {1000, 0, 16842, true}, {1000, 0, 16843, false},
	} {
		if got := impl.IsStable(list, c.rise, 100, c.doubt, c.limit); got != c.want {
			t.Errorf("IsStable with a rise of %d, a doubt of %d and a limit of %d = %v", c.rise, c.doubt, c.limit, got)
		}
	}
}
