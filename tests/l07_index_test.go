package tests

import (
	"testing"

	"loop.example/g01013/impl"
)

// indexAsTold returns the bounds of the index of a layer under a load.
func indexAsTold(x impl.Layer, load, rise, run, doubt int64) (int64, int64) {
	stress := stressAsTold(load, rise, run)
	if stress == 0 {
		return 1000000, 1000000
	}
	least, greatest := boundsAsTold(x, doubt)
	return min(1000000, floorOf(quotientOf(stress, 1000, least))), min(1000000, ceilingOf(quotientOf(stress, 1000, greatest)))
}

func checkIndex(t *testing.T, list []impl.Layer, k, rise, run, doubt, wantLeast, wantGreatest int64) {
	t.Helper()
	least, greatest, code := impl.IndexBounds(list, k, rise, run, doubt)
	if least != wantLeast || greatest != wantGreatest || code != impl.OK {
		t.Errorf("IndexBounds(%v, %d, %d, %d, %d) = %d, %d, %d, want %d, %d", list, k, rise, run, doubt, least, greatest, code, wantLeast, wantGreatest)
	}
}

func TestKnownIndexBounds(t *testing.T) {
	for _, c := range []struct{ form, density, load, rise, run, doubt, least, greatest int64 }{
		// A strength of 300 under a stress of 981, of 1, and of 100, which divides its bounds.
		{impl.FoRound, 100, 200000, 1, 1, 0, 305, 306}, {impl.FoRound, 100, 200000, 1, 1, 100, 275, 337}, {impl.FoRound, 100, 200000, 1, 1, 1000, 0, 612},
		{impl.FoRound, 100, 102, 1, 1, 0, 300000, 300000}, {impl.FoRound, 100, 20387, 1, 1, 0, 3000, 3000}, {impl.FoRound, 100, 20387, 1, 1, 500, 1500, 4500}, {impl.FoRound, 100, 20387, 1, 1, 1, 2990, 3010},
		{impl.FoFacet, 250, 20000, 70, 100, 200, 6521, 9783}, {impl.FoRound, 300, 25000, 70, 100, 200, 18782, 28174},
		// The greatest strength and stress, and the least ones.
		{impl.FoMelt, 900, 15000000, 1000, 1000, 0, 385, 386}, {impl.FoMelt, 900, 15000000, 1000, 1000, 1000, 0, 771}, {impl.FoHoar, 30, 15000000, 1000, 1000, 0, 0, 1}, {impl.FoHoar, 30, 102, 1, 1, 1, 6000, 8000},
	} {
		checkIndex(t, underLoad(layerWith(c.form, c.density), c.load), 0, c.rise, c.run, c.doubt, c.least, c.greatest)
	}
}

// TestGreatestIndices has bounds that are just MaxIndex, and that would be greater.
func TestGreatestIndices(t *testing.T) {
	for _, c := range []struct{ form, density, load, doubt, least, greatest int64 }{
		// A strength of 1000 under a stress of 1.
		{impl.FoMelt, 169, 102, 0, 1000000, 1000000}, {impl.FoMelt, 169, 102, 1, 999000, 1000000}, {impl.FoMelt, 169, 102, 1000, 0, 1000000},
		{impl.FoMelt, 168, 102, 0, 988000, 988000}, {impl.FoMelt, 168, 102, 12, 976000, 1000000}, {impl.FoMelt, 168, 102, 20, 968000, 1000000}, {impl.FoMelt, 170, 102, 0, 1000000, 1000000}, {impl.FoMelt, 170, 102, 11, 1000000, 1000000}, {impl.FoMelt, 170, 102, 12, 999000, 1000000}, {impl.FoMelt, 170, 102, 20, 991000, 1000000},
		{impl.FoMelt, 900, 102, 0, 1000000, 1000000}, {impl.FoMelt, 900, 102, 900, 1000000, 1000000}, {impl.FoMelt, 900, 102, 999, 28000, 1000000}, {impl.FoMelt, 900, 102, 1000, 0, 1000000},
		// Without stress, even no strength at all is enough.
		{impl.FoHoar, 30, 101, 0, 1000000, 1000000}, {impl.FoHoar, 30, 101, 1000, 1000000, 1000000}, {impl.FoHoar, 30, 0, 1000, 1000000, 1000000},
	} {
		checkIndex(t, underLoad(layerWith(c.form, c.density), c.load), 0, 1, 1, c.doubt, c.least, c.greatest)
	}
}

func TestIndicesWithoutStress(t *testing.T) {
	for _, list := range stabilityProfiles() {
		for k := range list {
			for _, doubt := range []int64{0, 500, 1000} {
				checkIndex(t, list, int64(k), 0, 1, doubt, 1000000, 1000000)
				checkIndex(t, list, int64(k), 0, 1000, doubt, 1000000, 1000000)
				checkIndex(t, list, int64(len(list))-1, 1000, 1000, doubt, 1000000, 1000000)
			}
		}
	}
}

func TestIndexBoundsOfEachLayer(t *testing.T) {
	for _, list := range stabilityProfiles() {
		for k, x := range list {
			for _, slope := range someSlopes() {
				for _, doubt := range []int64{0, 1, 333, 999, 1000} {
					least, greatest := indexAsTold(x, loadAsTold(list, k), slope[0], slope[1], doubt)
					checkIndex(t, list, int64(k), slope[0], slope[1], doubt, least, greatest)
				}
			}
		}
	}
}

// TestIndexBoundsWidenWithDoubt goes through all doubts, and holds the bounds against those without doubt.
func TestIndexBoundsWidenWithDoubt(t *testing.T) {
	for _, load := range []int64{0, 102, 1000, 20000, 765432, 15000000} {
		for _, form := range allForms() {
			list := underLoad(layerWith(form, 35+form*140), load)
			least, greatest, _ := impl.IndexBounds(list, 0, 70, 100, 0)
			if greatest-least > 1 {
				t.Errorf("without doubt, the bounds of %v are %d and %d", list[0], least, greatest)
			}
			for doubt := int64(1); doubt <= impl.MaxDoubt; doubt++ {
				lesser, greater, code := impl.IndexBounds(list, 0, 70, 100, doubt)
				if lesser > least || greater < greatest || lesser > greater || lesser < 0 || greater > impl.MaxIndex || code != impl.OK {
					t.Errorf("a doubt of %d makes bounds of %d and %d from %d and %d", doubt, lesser, greater, least, greatest)
				}
				least, greatest = lesser, greater
			}
		}
	}
}

// TestIndicesFallWithLoad lays more and more on a layer.
func TestIndicesFallWithLoad(t *testing.T) {
	for _, form := range allForms() {
		x := layerWith(form, 250)
		before, also := int64(1000000), int64(1000000)
		for load := int64(0); load <= 2000000; load += 7919 {
			least, greatest, code := impl.IndexBounds(underLoad(x, load), 0, 60, 100, 150)
			wantLeast, wantGreatest := indexAsTold(x, load, 60, 100, 150)
			checkBounds(t, "IndexBounds", least, greatest, code, wantLeast, wantGreatest, impl.OK)
			if least > before || greatest > also {
				t.Errorf("a load of %d makes %d and %d from %d and %d", load, least, greatest, before, also)
			}
			before, also = least, greatest
		}
	}
}

// TestIndexIsOfStrengthAndStress computes the bounds from what StrengthBounds and StressAt return.
func TestIndexIsOfStrengthAndStress(t *testing.T) {
	for _, list := range stabilityProfiles() {
		for k, x := range list {
			lower, upper, _ := impl.StrengthBounds(x, 250)
			stress, _ := impl.StressAt(list, int64(k), 70, 100)
			least, greatest := int64(1000000), int64(1000000)
			if stress > 0 {
				least, greatest = min(least, floorOf(quotientOf(stress, 1000, lower))), min(greatest, ceilingOf(quotientOf(stress, 1000, upper)))
			}
			checkIndex(t, list, int64(k), 70, 100, 250, least, greatest)
		}
	}
}
