package tests

import (
	"fmt"
	"slices"
	"testing"

	"loop.example/g01013/impl"
)

// partSnowAsTold returns the share of the snow of a part that a mass takes up at most.
func partSnowAsTold(x impl.Part, share int64) int64 {
	return nearestOf(quotientOf(1000, slabAsTold(x.Length*x.Width, x.Depth, x.Density), share))
}

// growthAsTold returns the mass after each part, what is taken up in it, and a code.
func growthAsTold(list []impl.Part, tonnes, share int64) (masses, taken []int64, code int64) {
	for _, x := range list {
		more := min(tonnes, partSnowAsTold(x, share))
		tonnes += more
		if tonnes > 100000000 {
			return nil, nil, impl.ErrState
		}
		masses, taken = append(masses, tonnes), append(taken, more)
	}
	return masses, taken, impl.OK
}

// checkGrowth checks how a mass grows, and where most of all.
func checkGrowth(t *testing.T, list []impl.Part, tonnes, share int64, masses, taken []int64, wanted int64) {
	t.Helper()
	got, code := impl.GrowthOf(list, tonnes, share)
	checkNumbers(t, fmt.Sprint("GrowthOf ", list, tonnes, share), got, code, masses, wanted)
	if len(list) == 0 {
		wanted = impl.ErrNotFound
	}
	index, most := int64(0), int64(0)
	for i, n := range taken {
		if n > most {
			index, most = int64(i), n
		}
	}
	i, much, code := impl.LargestMass(list, tonnes, share)
	checkBounds(t, fmt.Sprint("LargestMass ", list, tonnes, share), i, much, code, index, most, wanted)
}

func someGrowthShares() []int64 { return []int64{0, 1, 5, 100, 333, 500, 999, 1000} }

func TestGrowth(t *testing.T) {
	codes := map[int64]int{}
	for _, list := range goodPaths() {
		for _, tonnes := range append(someTonnes(), 99000000, 99999000) {
			for _, share := range someGrowthShares() {
				masses, taken, wanted := growthAsTold(list, tonnes, share)
				checkGrowth(t, list, tonnes, share, masses, taken, wanted)
				codes[wanted]++
			}
		}
	}
	if codes[impl.OK] < 1000 || codes[impl.ErrState] < 500 {
		t.Errorf("too few of some codes: %v", codes)
	}
}

func TestKnownGrowthOfMasses(t *testing.T) {
	for _, known := range []struct {
		list          []impl.Part
		tonnes, share int64
		want          []int64
	}{
		{nil, 0, 0, nil}, {nil, 100000000, 1000, nil}, {[]impl.Part{goodPart()}, 50, 1000, []int64{100}}, {[]impl.Part{goodPart()}, 50, 100, []int64{70}}, {[]impl.Part{goodPart()}, 19, 100, []int64{38}}, {[]impl.Part{goodPart()}, 20, 100, []int64{40}}, {[]impl.Part{goodPart()}, 21, 100, []int64{41}}, {[]impl.Part{goodPart()}, 199, 1000, []int64{398}}, {[]impl.Part{goodPart()}, 200, 1000, []int64{400}}, {[]impl.Part{goodPart()}, 201, 1000, []int64{401}},
		// Without a mass, a share or snow nothing is taken up.
		{[]impl.Part{goodPart(), greatestPart()}, 0, 1000, []int64{0, 0}}, {[]impl.Part{goodPart(), greatestPart()}, 50, 0, []int64{50, 50}}, {[]impl.Part{leastPart(), leastPart()}, 50, 1000, []int64{50, 50}}, {[]impl.Part{partOf(2000, 500, 0, 1000)}, 50, 1000, []int64{50}},
		// The share of 5 tonnes is rounded, and so are the tonnes before.
		{pathWith(5), 50, 99, []int64{50}}, {pathWith(5), 50, 100, []int64{51}}, {pathWith(5), 50, 299, []int64{51}}, {pathWith(5), 50, 300, []int64{52}}, {pathWith(1), 50, 499, []int64{50}}, {pathWith(1), 50, 500, []int64{51}}, {[]impl.Part{partOf(1, 1, 49, 1000)}, 50, 1000, []int64{50}}, {[]impl.Part{partOf(1, 1, 50, 1000)}, 50, 1000, []int64{51}}, {[]impl.Part{partOf(1, 1, 50, 1000)}, 50, 499, []int64{50}}, {[]impl.Part{partOf(1, 1, 50, 1000)}, 50, 500, []int64{51}},
		// What is taken up depends on the mass after the part before.
		{pathWith(5, 3, 8, 8, 1), 100, 1000, []int64{105, 108, 116, 124, 125}}, {pathWith(5, 3, 8, 8, 1), 1, 1000, []int64{2, 4, 8, 16, 17}}, {pathWith(8, 8, 8, 8), 1, 1000, []int64{2, 4, 8, 16}}, {pathWith(8, 8, 8, 8), 1, 500, []int64{2, 4, 8, 12}}, {pathWith(0, 0, 7), 3, 1000, []int64{3, 3, 6}}, {pathWith(2000, 0, 1), 900, 1000, []int64{1800, 1800, 1801}},
		{[]impl.Part{greatestPart()}, 5000000, 1000, []int64{10000000}}, {[]impl.Part{greatestPart()}, 4999999, 1000, []int64{9999998}}, {[]impl.Part{greatestPart()}, 5000001, 1000, []int64{10000001}}, {[]impl.Part{greatestPart()}, 100000, 1, []int64{105000}},
		// Masses up to MaxTonnes.
		{pathWith(1), 99999999, 1000, []int64{100000000}}, {pathWith(1, 1), 99999998, 1000, []int64{99999999, 100000000}}, {pathWith(1), 100000000, 499, []int64{100000000}}, {pathWith(0, 0), 100000000, 1000, []int64{100000000, 100000000}}, {[]impl.Part{greatestPart()}, 100000000, 0, []int64{100000000}}, {[]impl.Part{greatestPart()}, 95000000, 1000, []int64{100000000}},
	} {
		got, code := impl.GrowthOf(known.list, known.tonnes, known.share)
		checkNumbers(t, fmt.Sprint("GrowthOf ", known), got, code, known.want, impl.OK)
	}
}

// TestMassesThatBecomeTooGreat has masses that do so in the last part, and others that do so before.
func TestMassesThatBecomeTooGreat(t *testing.T) {
	for _, known := range []struct {
		list          []impl.Part
		tonnes, share int64
	}{
		{pathWith(1), 100000000, 1000}, {pathWith(1), 100000000, 500}, {pathWith(1, 1), 99999999, 1000}, {pathWith(0, 0, 2), 99999999, 1000}, {pathWith(2, 0, 0), 99999999, 1000}, {pathWith(1, 1, 0, 0), 99999999, 1000}, {[]impl.Part{greatestPart()}, 95000001, 1000}, {[]impl.Part{greatestPart()}, 100000000, 1000}, {[]impl.Part{greatestPart()}, 100000000, 1}, {pathOf(greatestPart(), 24), 100000000, 1000}, {pathOf(greatestPart(), 24), 5000000, 1000}, {pathOf(greatestPart(), 20), 5000000, 1000},
	} {
		checkGrowth(t, known.list, known.tonnes, known.share, nil, nil, impl.ErrState)
	}
	// With one part less there is room for all of them.
	got, code := impl.GrowthOf(pathOf(greatestPart(), 19), 5000000, 1000)
	if len(got) != 19 || got[18] != 100000000 || code != impl.OK {
		t.Errorf("GrowthOf = %v, %d", got, code)
	}
}

func TestKnownLargestMasses(t *testing.T) {
	for _, known := range []struct {
		list                       []impl.Part
		tonnes, share, index, most int64
	}{
		{[]impl.Part{goodPart()}, 50, 100, 0, 20}, {[]impl.Part{goodPart()}, 50, 1000, 0, 50}, {pathWith(5, 3, 8, 8, 1), 100, 1000, 2, 8}, {pathWith(8, 3, 8, 8, 1), 100, 1000, 0, 8}, {pathWith(5, 3, 8, 8, 9), 100, 1000, 4, 9}, {pathWith(9, 3, 8, 8, 9), 100, 1000, 0, 9},
		// A mass that is small takes up more and more.
		{pathWith(50, 2000), 3, 1000, 1, 6}, {pathWith(50, 50, 50), 3, 1000, 2, 12}, {pathWith(50, 5, 5), 3, 1000, 1, 5}, {pathWith(3, 50, 6), 3, 1000, 1, 6}, {pathWith(2000, 2000, 2000), 100, 50, 0, 100}, {pathWith(2000, 2000, 2000), 99, 50, 1, 100},
		// Where nothing is taken up, the first part is as good as the others.
		{pathWith(0), 5, 1000, 0, 0}, {pathWith(0, 0, 0), 5, 1000, 0, 0}, {pathWith(5, 3, 8), 0, 1000, 0, 0}, {pathWith(5, 3, 8), 100, 0, 0, 0}, {pathWith(0, 0, 1), 5, 1000, 2, 1}, {pathWith(0, 1, 1), 5, 1000, 1, 1}, {pathWith(1, 0, 0), 5, 1000, 0, 1},
		{pathWith(5, 6), 100, 100, 0, 1}, {pathWith(4, 6), 100, 100, 1, 1}, {pathOf(greatestPart(), 19), 5000000, 1000, 0, 5000000}, {pathWith(0, 1), 99999999, 1000, 1, 1},
	} {
		index, most, code := impl.LargestMass(known.list, known.tonnes, known.share)
		checkBounds(t, fmt.Sprint("LargestMass ", known), index, most, code, known.index, known.most, impl.OK)
	}
	for _, list := range [][]impl.Part{nil, {}} {
		for _, tonnes := range []int64{0, 1, 100000000} {
			index, most, code := impl.LargestMass(list, tonnes, 1000)
			checkBounds(t, fmt.Sprint("LargestMass of no parts and ", tonnes), index, most, code, 0, 0, impl.ErrNotFound)
		}
	}
}

// TestMassesNeverBecomeLess follows from what a mass takes up.
func TestMassesNeverBecomeLess(t *testing.T) {
	for _, list := range goodPaths() {
		for _, tonnes := range someTonnes() {
			got, code := impl.GrowthOf(list, tonnes, 1000)
			masses := append([]int64{tonnes}, got...)
			if code == impl.OK && (len(got) != len(list) || !slices.IsSorted(masses)) {
				t.Errorf("GrowthOf(%v, %d, 1000) = %v", list, tonnes, got)
			}
		}
	}
}
