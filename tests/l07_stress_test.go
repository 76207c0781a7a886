package tests

import (
	"testing"

	"loop.example/g01013/impl"
)

// loadAsTold weighs what lies above a layer.
func loadAsTold(list []impl.Layer, k int) int64 {
	load := int64(0)
	for _, x := range list[k+1:] {
		load += x.Ice + x.Water
	}
	return load
}

// stressAsTold returns the stress under a load.
func stressAsTold(load, rise, run int64) int64 {
	return nearestOf(quotientOf(100000*(rise*rise+run*run), 981, load, rise, run))
}

// someSlopes holds slopes from none to as steep as may be, with the limits of rise and run.
func someSlopes() [][2]int64 {
	return [][2]int64{{0, 1}, {0, 1000}, {1, 1}, {1, 2}, {2, 1}, {1, 1000}, {1000, 1}, {70, 100}, {100, 70}, {577, 1000}, {999, 1000}, {1000, 999}, {1000, 1000}, {500, 500}}
}

// otherSlopes holds numbers that make no slope.
func otherSlopes() [][2]int64 {
	slopes := [][2]int64{{-1, 100}, {1001, 100}, {-1, 1}, {1001, 1000}, {70, 0}, {70, -1}, {70, 1001}, {0, 0}, {0, 1001}, {1000, 0}, {-1, 0}, {1001, 1001}, {-70, -100}}
	for _, n := range otherNumbers() {
		slopes = append(slopes, [2]int64{n, 100}, [2]int64{70, n}, [2]int64{n, n})
	}
	return slopes
}

// stabilityProfiles holds the profiles with which the functions of chapter 7 are compared with what it tells.
func stabilityProfiles() [][]impl.Layer { return append(goodProfiles(), mixedProfiles(40)...) }

// underLoad returns a layer that lies under so many grams of the strongest snow.
func underLoad(x impl.Layer, load int64) []impl.Layer {
	list := []impl.Layer{x}
	for load > 0 {
		part := min(load, impl.MaxIce)
		list = append(list, impl.Layer{Form: impl.FoMelt, Ice: part, Density: 900, Hardness: 6})
		load -= part
	}
	return list
}

func TestKnownStresses(t *testing.T) {
	for _, c := range [][4]int64{
		{0, 1, 1, 0}, {200000, 1, 1, 981}, {200000, 500, 500, 981}, {20000, 70, 100, 92}, {25000, 70, 100, 115}, {20000, 100, 70, 92},
		// Just a half, and one gram less.
		{100000, 1, 1, 491}, {99999, 1, 1, 490}, {100000, 1000, 1000, 491}, {250000, 1, 2, 981}, {125000, 1, 2, 491}, {125000, 2, 1, 491}, {124999, 2, 1, 490},
		// Rounded to nothing, and the least load that is not.
		{1, 1, 1, 0}, {101, 1, 1, 0}, {102, 1, 1, 1}, {127, 1, 2, 0}, {128, 1, 2, 1}, {50968, 1, 1000, 0}, {50969, 1, 1000, 1}, {50968, 1000, 1, 0}, {50969, 1000, 1, 1},
		// On level ground nothing slides.
		{15000000, 0, 1, 0}, {15000000, 0, 1000, 0}, {15000000, 1000, 1000, 73575}, {15000000, 1000, 1, 147}, {15000000, 999, 1000, 73575}, {15000000, 577, 1000, 63698},
	} {
		got, code := impl.StressAt(underLoad(thinLayer(), c[0]), 0, c[1], c[2])
		checkCoded(t, "StressAt", got, code, c[3], impl.OK)
	}
}

func TestGreatestStresses(t *testing.T) {
	list := layersOf(greatestLayer(), impl.MaxLayers)
	for k, want := range []int64{147150, 137340, 127530, 117720, 107910, 98100, 88290, 78480, 68670, 58860, 49050, 39240, 29430, 19620, 9810, 0} {
		got, code := impl.StressAt(list, int64(k), 1000, 1000)
		checkCoded(t, "StressAt of the greatest load", got, code, want, impl.OK)
	}
}

func TestStressAtEachLayer(t *testing.T) {
	for _, list := range stabilityProfiles() {
		for k := range list {
			load, _ := impl.LoadAbove(list, int64(k))
			for _, slope := range someSlopes() {
				got, code := impl.StressAt(list, int64(k), slope[0], slope[1])
				checkCoded(t, "StressAt", got, code, stressAsTold(loadAsTold(list, k), slope[0], slope[1]), impl.OK)
				checkCoded(t, "StressAt of LoadAbove", got, code, stressAsTold(load, slope[0], slope[1]), impl.OK)
			}
		}
	}
}

func TestStressAtEachSlope(t *testing.T) {
	list := underLoad(thinLayer(), 1234567)
	for rise := int64(0); rise <= impl.MaxRun; rise += 9 {
		for run := int64(1); run <= impl.MaxRun; run += 11 {
			got, code := impl.StressAt(list, 0, rise, run)
			checkCoded(t, "StressAt", got, code, stressAsTold(1234567, rise, run), impl.OK)
		}
	}
}

// TestStressGrowsToTheSteepest goes to a slope that rises as much as it runs, and beyond it.
func TestStressGrowsToTheSteepest(t *testing.T) {
	list := underLoad(thinLayer(), 7654321)
	for _, run := range []int64{1, 3, 100, 500} {
		before := int64(0)
		for rise := int64(0); rise <= 2*run; rise++ {
			got, code := impl.StressAt(list, 0, rise, run)
			checkCoded(t, "StressAt", got, code, stressAsTold(7654321, rise, run), impl.OK)
			if rise <= run && got < before || rise > run && got > before {
				t.Errorf("StressAt with a rise of %d over %d is %d, after %d", rise, run, got, before)
			}
			before = got
		}
	}
}

// TestTopLayersHaveNoStress has layers with nothing above them, however steep they lie.
func TestTopLayersHaveNoStress(t *testing.T) {
	for _, list := range stabilityProfiles() {
		if len(list) == 0 {
			continue
		}
		for _, slope := range someSlopes() {
			got, code := impl.StressAt(list, int64(len(list))-1, slope[0], slope[1])
			checkCoded(t, "StressAt of the top layer", got, code, 0, impl.OK)
		}
	}
}

// TestStressCountsIceAndWater puts the same mass on a layer as ice and as water.
func TestStressCountsIceAndWater(t *testing.T) {
	for _, water := range []int64{0, 1, 100000, 199999} {
		upper := impl.Layer{Form: impl.FoMelt, Ice: 200000 - water, Water: water, Density: 500, Hardness: 1}
		got, code := impl.StressAt([]impl.Layer{thinLayer(), upper}, 0, 1, 1)
		checkCoded(t, "StressAt under ice and water", got, code, 981, impl.OK)
		// What lies below, and the layer itself, are no load.
		got, code = impl.StressAt([]impl.Layer{greatestLayer(), greatestLayer(), upper}, 1, 1, 1)
		checkCoded(t, "StressAt between layers", got, code, 981, impl.OK)
	}
}

// checkStressesBelow checks that all layers below k have in both profiles the same stress.
func checkStressesBelow(t *testing.T, before, after []impl.Layer, k int64) {
	t.Helper()
	for lower := range k {
		want, wanted := impl.StressAt(before, lower, 70, 100)
		got, code := impl.StressAt(after, lower, 70, 100)
		checkCoded(t, "StressAt below layers that were changed", got, code, want, wanted)
	}
}

// TestJoinedAndSplitLayersWeighTheSame holds the functions of chapter 3 against stress.
func TestJoinedAndSplitLayersWeighTheSame(t *testing.T) {
	for _, list := range stabilityProfiles() {
		for k := range int64(len(list)) {
			if joined, code := impl.JoinLayers(list, k); code == impl.OK {
				checkStressesBelow(t, list, joined, k)
				got, code := impl.StressAt(joined, k, 70, 100)
				checkCoded(t, "StressAt of joined layers", got, code, stressAsTold(loadAsTold(list, int(k)+1), 70, 100), impl.OK)
			}
			if split, code := impl.SplitLayer(list, k, 7); code == impl.OK {
				checkStressesBelow(t, list, split, k)
				got, code := impl.StressAt(split, k+1, 70, 100)
				checkCoded(t, "StressAt of an upper part", got, code, stressAsTold(loadAsTold(list, int(k)), 70, 100), impl.OK)
				got, code = impl.StressAt(split, k, 70, 100)
				checkCoded(t, "StressAt of a lower part", got, code, stressAsTold(loadAsTold(split, int(k)), 70, 100), impl.OK)
			}
		}
	}
}
