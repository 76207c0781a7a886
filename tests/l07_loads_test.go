package tests

import (
	"math/big"
	"testing"

	"loop.example/g01013/impl"
)

// tooMuchFor returns the least load on a layer with which its index is less than a limit, or -1 if there is none.
func tooMuchFor(x impl.Layer, rise, run, doubt, limit int64) int64 {
	if limit == 0 || rise == 0 {
		return -1
	}
	strength, _ := boundsAsTold(x, doubt)
	// The index is less than the limit from the first stress on that is greater than 1000 times the strength divided by it.
	stress := floorOf(quotientOf(limit, 1000, strength)) + 1
	// A stress is rounded to this one from half a pascal below it on.
	pascals := new(big.Rat).Sub(big.NewRat(stress, 1), big.NewRat(1, 2))
	return ceilingOf(pascals.Mul(pascals, quotientOf(981*rise*run, 100000, rise*rise+run*run)))
}

// moreLoadAsTold asks each layer for the load that is too much for it.
func moreLoadAsTold(list []impl.Layer, rise, run, doubt, limit int64) (int64, int64) {
	least := int64(impl.MaxIce + 1)
	for k, x := range list {
		if load := tooMuchFor(x, rise, run, doubt, limit); load >= 0 {
			least = min(least, load-loadAsTold(list, k))
		}
	}
	if least <= 0 {
		return 0, impl.ErrState
	}
	if least > impl.MaxIce {
		return 0, impl.ErrNotFound
	}
	return least, impl.OK
}

// stableAsTold says whether a profile is stable under a further load.
func stableAsTold(list []impl.Layer, rise, run, doubt, limit, further int64) bool {
	for _, least := range leastIndicesAsTold(list, rise, run, doubt, further) {
		if least < limit {
			return false
		}
	}
	return true
}

// checkJustTooMuch checks that a further load is too much for a profile, and that one gram less is not.
func checkJustTooMuch(t *testing.T, list []impl.Layer, rise, run, doubt, limit, load int64) {
	t.Helper()
	if stableAsTold(list, rise, run, doubt, limit, load) || !stableAsTold(list, rise, run, doubt, limit, load-1) {
		t.Errorf("%d is not just too much for %v on %d over %d, with %d and %d", load, list, rise, run, doubt, limit)
	}
	if len(list) == impl.MaxLayers {
		return
	}
	// Snow on top is a further load for all layers below, and under no load itself.
	for further := load - 1; further <= load; further++ {
		snow := impl.Layer{Form: impl.FoHoar, Ice: max(1, further), Density: 30, Hardness: 1}
		covered, code := impl.AddLayer(list, snow)
		if further == 0 {
			covered = list
		}
		if got := impl.IsStable(covered, rise, run, doubt, limit); got != (further < load) || code != impl.OK {
			t.Errorf("IsStable under %d more on %v = %v, though %d is just too much", further, list, got, load)
		}
	}
}

func checkMoreLoad(t *testing.T, list []impl.Layer, rise, run, doubt, limit int64) {
	t.Helper()
	want, wanted := moreLoadAsTold(list, rise, run, doubt, limit)
	got, code := impl.MoreLoad(list, rise, run, doubt, limit)
	if got != want || code != wanted {
		t.Errorf("MoreLoad(%v, %d, %d, %d, %d) = %d, %d, want %d, %d", list, rise, run, doubt, limit, got, code, want, wanted)
	}
	if stable := impl.IsStable(list, rise, run, doubt, limit); stable == (code == impl.ErrState) {
		t.Errorf("IsStable(%v, %d, %d, %d, %d) = %v, and MoreLoad returns %d", list, rise, run, doubt, limit, stable, code)
	}
	if code == impl.OK {
		checkJustTooMuch(t, list, rise, run, doubt, limit, got)
	}
	if code == impl.ErrNotFound && !stableAsTold(list, rise, run, doubt, limit, impl.MaxIce) {
		t.Errorf("MoreLoad(%v, %d, %d, %d, %d) does not find %d", list, rise, run, doubt, limit, impl.MaxIce)
	}
}

func TestKnownMoreLoads(t *testing.T) {
	snow, melt := layerWith(impl.FoNew, 100), layerWith(impl.FoMelt, 900)
	for _, c := range []struct {
		list               []impl.Layer
		rise, doubt, limit int64
		want, wanted       int64
	}{
		// A strength of 200 is too little from a stress of 201 on, which 40877 grams make.
		{[]impl.Layer{snow}, 1, 0, 1000, 40877, impl.OK}, {underLoad(snow, 1), 1, 0, 1000, 40876, impl.OK}, {underLoad(snow, 20000), 1, 0, 1000, 20877, impl.OK},
		// The first gram is too much, or none at all.
		{underLoad(snow, 40876), 1, 0, 1000, 1, impl.OK}, {underLoad(snow, 40877), 1, 0, 1000, 0, impl.ErrState}, {underLoad(snow, 40878), 1, 0, 1000, 0, impl.ErrState}, {underLoad(snow, 15000000), 1, 0, 1000, 0, impl.ErrState}, {underLoad(snow, 40876), 1, 1, 1000, 0, impl.ErrState},
		// The greatest load is just too much, or it is not.
		{underLoad(melt, 102), 1, 0, 5779, 1000000, impl.OK}, {underLoad(melt, 101), 1, 0, 5779, 0, impl.ErrNotFound}, {underLoad(melt, 103), 1, 0, 5779, 999999, impl.OK}, {[]impl.Layer{melt}, 1, 0, 5779, 0, impl.ErrNotFound}, {[]impl.Layer{melt}, 1, 0, 5780, 999899, impl.OK},
		// Nothing is less than a limit of 0, and on level ground nothing slides.
		{[]impl.Layer{snow}, 1, 1000, 0, 0, impl.ErrNotFound}, {underLoad(snow, 15000000), 1, 1000, 0, 0, impl.ErrNotFound}, {underLoad(snow, 15000000), 0, 1000, 1000000, 0, impl.ErrNotFound},
		// The greatest limit is missed with the first stress, unless the strength is 1000 or more.
		{[]impl.Layer{snow}, 1, 0, 1000000, 102, impl.OK}, {[]impl.Layer{melt}, 1, 0, 1000000, 5811, impl.OK}, {[]impl.Layer{snow}, 1, 1000, 1, 102, impl.OK}, {underLoad(snow, 101), 1, 1000, 1, 1, impl.OK}, {underLoad(snow, 102), 1, 1000, 1, 0, impl.ErrState},
	} {
		got, code := impl.MoreLoad(c.list, c.rise, 1, c.doubt, c.limit)
		checkCoded(t, "MoreLoad of "+profileAsTold(c.list), got, code, c.want, c.wanted)
		checkMoreLoad(t, c.list, c.rise, 1, c.doubt, c.limit)
	}
}

func TestMoreLoadOfManyProfiles(t *testing.T) {
	codes := map[int64]int{}
	for _, list := range stabilityProfiles() {
		for _, slope := range someSlopes() {
			for _, doubt := range []int64{0, 200, 1000} {
				indices := append(leastIndicesAsTold(list, slope[0], slope[1], doubt, 0), 1000000)
				for _, limit := range []int64{0, 1, 300, 1000, indices[0] / 2, indices[0], indices[len(indices)/2], 1000000} {
					checkMoreLoad(t, list, slope[0], slope[1], doubt, limit)
					_, code := impl.MoreLoad(list, slope[0], slope[1], doubt, limit)
					codes[code]++
				}
			}
		}
	}
	for _, code := range []int64{impl.OK, impl.ErrState, impl.ErrNotFound} {
		if codes[code] < 100 {
			t.Errorf("only %d times the code %d", codes[code], code)
		}
	}
}

// TestMoreLoadGramByGram tries each load from 1 on.
func TestMoreLoadGramByGram(t *testing.T) {
	for _, list := range [][]impl.Layer{underLoad(layerWith(impl.FoHoar, 100), 15000), layersFrom([2]int64{impl.FoHoar, 120}, [2]int64{impl.FoNew, 60}, [2]int64{impl.FoFacet, 80})} {
		want := int64(0)
		for stableAsTold(list, 40, 100, 300, 500, want) {
			want++
		}
		got, code := impl.MoreLoad(list, 40, 100, 300, 500)
		checkCoded(t, "MoreLoad", got, code, want, impl.OK)
	}
}

// steepestAsTold tries each rise from run down.
func steepestAsTold(list []impl.Layer, run, doubt, limit int64) int64 {
	for rise := run; rise > 0; rise-- {
		if stableAsTold(list, rise, run, doubt, limit, 0) {
			return rise
		}
	}
	return 0
}

func TestKnownSteepestSlopes(t *testing.T) {
	hoar, round := layerWith(impl.FoHoar, 200), layerWith(impl.FoRound, 300)
	for _, c := range []struct {
		list                     []impl.Layer
		run, doubt, limit, steep int64
	}{
		// As steep as run, where the stress is 98 and the index 3265.
		{underLoad(hoar, 20000), 100, 0, 3265, 100}, {underLoad(hoar, 20000), 1, 0, 3265, 1}, {underLoad(hoar, 20000), 1000, 0, 3265, 1000}, {underLoad(hoar, 20000), 1000, 0, 3266, 895}, {underLoad(hoar, 20000), 100, 0, 3266, 89}, {underLoad(hoar, 20000), 1, 0, 3266, 0},
		// Between both: a stress of 49 is half of the greatest one, and the index for it 6530.
		{underLoad(hoar, 20000), 1000, 0, 6530, 270}, {underLoad(hoar, 20000), 1000, 0, 6531, 264}, {underLoad(hoar, 20000), 100, 0, 6531, 26},
		// Level ground alone.
		{underLoad(hoar, 15000000), 1000, 0, 1000000, 0}, {underLoad(hoar, 15000000), 1, 0, 1000, 0}, {underLoad(hoar, 20000), 100, 1000, 1, 0}, {underLoad(hoar, 15000000), 1000, 1000, 1, 0}, {underLoad(hoar, 20000), 1000, 1000, 1, 2}, {underLoad(hoar, 20000), 1000, 1000, 1000000, 2},
		// Nothing is less than a limit of 0, and the top layer is stable on each slope.
		{underLoad(hoar, 15000000), 1000, 1000, 0, 1000}, {[]impl.Layer{hoar}, 1000, 1000, 1000000, 1000}, {[]impl.Layer{hoar}, 1, 1000, 1000000, 1}, {underLoad(round, 101), 77, 1000, 1000000, 77}, {underLoad(round, 102), 77, 1000, 1000000, 74},
	} {
		got, code := impl.SteepestFor(c.list, c.run, c.doubt, c.limit)
		checkCoded(t, "SteepestFor "+profileAsTold(c.list), got, code, c.steep, impl.OK)
		checkCoded(t, "what is told of "+profileAsTold(c.list), steepestAsTold(c.list, c.run, c.doubt, c.limit), impl.OK, c.steep, impl.OK)
	}
}

// checkSteepest goes through all rises up to run: the profile is stable up to the greatest one, and not above it.
func checkSteepest(t *testing.T, list []impl.Layer, run, doubt, limit int64) {
	t.Helper()
	steepest, code := impl.SteepestFor(list, run, doubt, limit)
	if code != impl.OK || steepest < 0 || steepest > run {
		t.Errorf("SteepestFor(%v, %d, %d, %d) = %d, %d", list, run, doubt, limit, steepest, code)
	}
	for rise := range run + 1 {
		if got := impl.IsStable(list, rise, run, doubt, limit); got != (rise <= steepest) {
			t.Errorf("IsStable(%v, %d, %d, %d, %d) = %v, though the steepest rise is %d", list, rise, run, doubt, limit, got, steepest)
		}
	}
}

func TestSteepestForManyProfiles(t *testing.T) {
	for _, list := range stabilityProfiles() {
		for _, run := range []int64{1, 2, 17, 100} {
			for _, doubt := range []int64{0, 200, 1000} {
				for _, limit := range []int64{0, 1, 1000, 5000, 1000000} {
					checkSteepest(t, list, run, doubt, limit)
				}
			}
		}
		checkSteepest(t, list, 1000, 100, 1500)
	}
}

func TestSteepestForAsTold(t *testing.T) {
	for _, list := range stabilityProfiles() {
		for _, limit := range []int64{300, 1500, 20000} {
			got, code := impl.SteepestFor(list, 30, 150, limit)
			checkCoded(t, "SteepestFor", got, code, steepestAsTold(list, 30, 150, limit), impl.OK)
		}
	}
}
