package tests

import (
	"fmt"
	"testing"

	"loop.example/g01013/impl"
)

// felledAsTold returns a stand without some of its trees.
func felledAsTold(x impl.Stand, trees int64) impl.Stand {
	if x.Trees > 0 {
		x.Cover -= roundedQuotient(x.Cover*trees, x.Trees).Int64()
	}
	x.Trees -= trees
	return x
}

func TestKnownFelledStands(t *testing.T) {
	for _, known := range []struct{ trees, cover, felled, left, leftCover int64 }{
		{400, 700, 100, 300, 525}, {400, 700, 0, 400, 700}, {400, 700, 400, 0, 0}, {400, 700, 399, 1, 2}, {400, 700, 398, 2, 3}, {400, 700, 1, 399, 698}, {400, 700, 2, 398, 696},
		// The cover that is lost is rounded up from a half on, otherwise down.
		{2, 1, 1, 1, 0}, {4, 1, 1, 3, 1}, {4, 1, 2, 2, 0}, {4, 1, 3, 1, 0}, {3, 1, 1, 2, 1}, {3, 1, 2, 1, 0}, {3, 2, 1, 2, 1}, {2000, 1000, 1, 1999, 999}, {2000, 999, 1, 1999, 999}, {2000, 1000, 3, 1997, 998}, {2000, 1, 999, 1001, 1}, {2000, 1, 1000, 1000, 0},
		// All trees, none of them, and a stand that has none.
		{1, 1000, 1, 0, 0}, {1, 1000, 0, 1, 1000}, {2000, 1000, 2000, 0, 0}, {2000, 1000, 0, 2000, 1000}, {2000, 0, 7, 1993, 0}, {0, 0, 0, 0, 0}, {0, 1, 0, 0, 1}, {0, 1000, 0, 0, 1000},
	} {
		x, want := standOf("fir", known.trees, 600, known.cover, 30), standOf("fir", known.left, 600, known.leftCover, 30)
		got, code := impl.FellTrees(x, known.felled)
		checkStand(t, fmt.Sprintf("FellTrees(%v, %d)", x, known.felled), got, code, want, impl.OK)
	}
}

func TestFellTrees(t *testing.T) {
	for _, x := range mixedStands(500) {
		for _, trees := range []int64{0, 1, 2, 3, 100, 250, 499, 500, 1000, 1999, 2000, x.Trees - 1, x.Trees, x.Trees + 1, x.Trees / 2, x.Trees / 3} {
			if trees < 0 || trees > 2000 {
				continue
			}
			want, wanted := felledAsTold(x, trees), int64(impl.OK)
			if trees > x.Trees {
				want, wanted = impl.Stand{}, impl.ErrState
			}
			got, code := impl.FellTrees(x, trees)
			checkStand(t, fmt.Sprintf("FellTrees(%v, %d)", x, trees), got, code, want, wanted)
			if wanted == impl.OK && !impl.ValidStands([]impl.Stand{got}) {
				t.Errorf("%v without %d trees is not valid: %v", x, trees, got)
			}
		}
	}
}

// TestFellTreesOneByOne goes through all numbers of trees of a stand, and those that it has not.
func TestFellTreesOneByOne(t *testing.T) {
	for _, x := range []impl.Stand{goodStand(), leastStand(), greatestStand(), standOf("fir", 0, 5000, 999, 0), standOf("fir", 7, 4000, 11, 20), standOf("fir", 1999, 4000, 997, 20)} {
		for trees := range int64(2001) {
			want, wanted := felledAsTold(x, trees), int64(impl.OK)
			if trees > x.Trees {
				want, wanted = impl.Stand{}, impl.ErrState
			}
			got, code := impl.FellTrees(x, trees)
			checkStand(t, fmt.Sprintf("FellTrees(%v, %d)", x, trees), got, code, want, wanted)
		}
	}
}

// mostFelledAsTold tries all numbers of trees from the greatest one down.
func mostFelledAsTold(x impl.Stand, snow, least int64) (int64, int64) {
	for trees := x.Trees; trees >= 0; trees-- {
		if protectionAsTold(felledAsTold(x, trees), snow) >= least {
			return trees, impl.OK
		}
	}
	return 0, impl.ErrNotFound
}

func checkMostFelled(t *testing.T, x impl.Stand, snow, least, want, wanted int64) {
	t.Helper()
	got, code := impl.MostFelled(x, snow, least)
	checkCoded(t, fmt.Sprintf("MostFelled(%v, %d, %d)", x, snow, least), got, code, want, wanted)
	for _, trees := range []int64{0, got / 2, got, got + 1, x.Trees} {
		left, failure := impl.FellTrees(x, trees)
		if failure != impl.OK {
			continue
		}
		// What may be felled leaves enough, and one tree more does not.
		if protection, _ := impl.ProtectionOf(left, snow); (protection >= least) != (code == impl.OK && trees <= got) {
			t.Errorf("without %d trees, %v protects by %d, though MostFelled of %d returns %d, %d", trees, x, protection, least, got, code)
		}
	}
}

func TestKnownMostFelled(t *testing.T) {
	for _, known := range []standCase{
		// The cover decides: the tree 114 takes it to 500, and the next one to 499.
		{x: goodStand(), snow: 100, least: 400, want: 114}, {x: goodStand(), snow: 300, least: 400, want: 114}, {x: goodStand(), snow: 100, least: 600, want: 0}, {x: goodStand(), snow: 100, least: 599, want: 0}, {x: goodStand(), snow: 100, least: 598, want: 1}, {x: goodStand(), snow: 100, least: 1, want: 342}, {x: goodStand(), snow: 100, least: 601, wanted: impl.ErrNotFound}, {x: goodStand(), snow: 301, least: 1, wanted: impl.ErrNotFound}, {x: goodStand(), snow: 100, least: 1000, wanted: impl.ErrNotFound},
		// The trees decide, one by one.
		{x: standOf("fir", 300, 4000, 1000, 20), snow: 2000, least: 600, want: 0}, {x: standOf("fir", 300, 4000, 1000, 20), snow: 2000, least: 599, want: 0}, {x: standOf("fir", 300, 4000, 1000, 20), snow: 2000, least: 598, want: 1}, {x: standOf("fir", 300, 4000, 1000, 20), snow: 2000, least: 601, wanted: impl.ErrNotFound}, {x: standOf("fir", 300, 4000, 1000, 20), snow: 2000, least: 2, want: 299}, {x: standOf("fir", 300, 4000, 1000, 20), snow: 2000, least: 1, want: 299},
		// The first tree takes a part of the cover that is too much, or that is rounded to nothing.
		{x: strongStand(), snow: 2000, least: 1000, want: 0}, {x: standOf("fir", 2000, 4000, 1000, 20), snow: 2000, least: 1000, want: 0}, {x: standOf("fir", 2000, 4000, 999, 20), snow: 2000, least: 999, want: 1}, {x: standOf("fir", 2000, 4000, 1, 20), snow: 2000, least: 1, want: 999}, {x: standOf("fir", 2000, 4000, 400, 20), snow: 2000, least: 400, want: 2},
		// All trees may be felled where nothing is wanted, also where there are none.
		{x: goodStand(), snow: 100, least: 0, want: 400}, {x: goodStand(), snow: 2000, least: 0, want: 400}, {x: greatestStand(), snow: 2000, least: 0, want: 2000}, {x: leastStand(), snow: 2000, least: 0, want: 0}, {x: leastStand(), snow: 0, least: 0, want: 0}, {x: standOf("fir", 0, 5000, 1000, 0), snow: 0, least: 0, want: 0}, {x: standOf("fir", 0, 5000, 1000, 0), snow: 0, least: 1, wanted: impl.ErrNotFound}, {x: standOf("fir", 1, 5000, 1000, 0), snow: 0, least: 2, want: 0}, {x: standOf("fir", 1, 5000, 1000, 0), snow: 0, least: 3, wanted: impl.ErrNotFound}, {x: standOf("fir", 1, 5000, 1000, 0), snow: 0, least: 0, want: 1},
		// A gap takes what is left.
		{x: standOf("fir", 500, 4000, 1000, 100), snow: 2000, least: 200, want: 0}, {x: standOf("fir", 500, 4000, 1000, 100), snow: 2000, least: 201, wanted: impl.ErrNotFound}, {x: standOf("fir", 500, 4000, 1000, 100), snow: 2000, least: 1, want: 99}, {x: standOf("fir", 500, 4000, 800, 100), snow: 2000, least: 1, wanted: impl.ErrNotFound}, {x: standOf("fir", 500, 4000, 801, 100), snow: 2000, least: 1, want: 0},
	} {
		checkMostFelled(t, known.x, known.snow, known.least, known.want, known.wanted)
	}
}

func TestMostFelledOfManyStands(t *testing.T) {
	codes := map[int64]int{}
	for _, x := range mixedStands(60) {
		for _, snow := range []int64{0, 300, 2000} {
			for _, least := range append(someLeasts(), protectionAsTold(x, snow), protectionAsTold(x, snow)/2) {
				want, wanted := mostFelledAsTold(x, snow, least)
				checkMostFelled(t, x, snow, least, want, wanted)
				codes[wanted]++
			}
		}
	}
	if codes[impl.OK] < 100 || codes[impl.ErrNotFound] < 100 {
		t.Errorf("too few of some codes: %v", codes)
	}
}

// TestFewerTreesNeverProtectBetter fells one tree more each time.
func TestFewerTreesNeverProtectBetter(t *testing.T) {
	for _, x := range mixedStands(100) {
		before := int64(1000)
		for trees := range x.Trees + 1 {
			left, _ := impl.FellTrees(x, trees)
			got, code := impl.ProtectionOf(left, 300)
			if got > before || code != impl.OK {
				t.Fatalf("%v without %d trees protects by %d, %d after %d with one more", x, trees, got, code, before)
			}
			before = got
		}
	}
}
