package tests

import (
	"fmt"
	"math/rand/v2"
	"slices"
	"testing"

	"loop.example/g01013/impl"
)

func splitAsTold(tonnes int64, weights []int64) []int64 {
	all, passed, before := int64(0), int64(0), int64(0)
	for _, weight := range weights {
		all += weight
	}
	parts := []int64{}
	for _, weight := range weights {
		passed += weight
		sum := nearestOf(quotientOf(all, tonnes, passed))
		parts = append(parts, sum-before)
		before = sum
	}
	return parts
}

// checkSplitTonnes checks the first half of the thirteenth promise, too.
func checkSplitTonnes(t *testing.T, tonnes int64, weights, want []int64) {
	t.Helper()
	got, code := impl.SplitTonnes(tonnes, weights)
	checkNumbers(t, fmt.Sprint("SplitTonnes ", tonnes, weights), got, code, want, impl.OK)
	if sum, _, code := impl.JoinTonnes(got); sum != tonnes || code != impl.OK {
		t.Errorf("SplitTonnes(%d, %v) = %v, of which %d are kept", tonnes, weights, got, sum)
	}
	for i, part := range got {
		if part < 0 || weights[i] == 0 && part != 0 {
			t.Errorf("SplitTonnes(%d, %v) = %v", tonnes, weights, got)
		}
	}
}

func TestSplitTonnes(t *testing.T) {
	mix := rand.New(rand.NewPCG(12, 64))
	for range 400 {
		weights := repeated(0, mix.IntN(impl.MaxList)+1)
		most := []int64{1, 2, 10, 1000}[mix.IntN(4)]
		for i := range weights {
			weights[i] = mix.Int64N(most + 1)
		}
		// At least one weight is not 0.
		weights[mix.IntN(len(weights))] = most
		for _, tonnes := range append(someTonnes(), mix.Int64N(100000001), mix.Int64N(1000)) {
			checkSplitTonnes(t, tonnes, weights, splitAsTold(tonnes, weights))
		}
	}
}

func TestKnownSplitsOfTonnes(t *testing.T) {
	for _, known := range []struct {
		tonnes        int64
		weights, want []int64
	}{
		{10, []int64{1, 1, 1}, []int64{3, 4, 3}}, {10, []int64{1}, []int64{10}}, {10, []int64{1000}, []int64{10}}, {0, []int64{1, 2, 3}, []int64{0, 0, 0}}, {100, []int64{1, 1}, []int64{50, 50}}, {100, []int64{3, 1}, []int64{75, 25}}, {100, []int64{1000, 999}, []int64{50, 50}}, {10, []int64{2, 1, 1}, []int64{5, 3, 2}}, {7, []int64{1, 2, 4}, []int64{1, 2, 4}},
		// Halves are rounded up where they stand.
		{1, []int64{1, 1}, []int64{1, 0}}, {3, []int64{1, 1}, []int64{2, 1}}, {2, []int64{1, 1, 1, 1}, []int64{1, 0, 1, 0}}, {1, []int64{1, 1, 1, 1}, []int64{0, 1, 0, 0}}, {1, []int64{1, 1, 1}, []int64{0, 1, 0}}, {1, []int64{1, 2}, []int64{0, 1}}, {1, []int64{2, 1}, []int64{1, 0}}, {5, []int64{1, 1}, []int64{3, 2}},
		// Weights of 0 get nothing.
		{7, []int64{0, 5, 0}, []int64{0, 7, 0}}, {7, []int64{0, 0, 1}, []int64{0, 0, 7}}, {7, []int64{1, 0, 0}, []int64{7, 0, 0}}, {7, []int64{1, 0, 1}, []int64{4, 0, 3}},
		// The tonnes times the weights are more than MaxValue.
		{100000000, repeated(1000, 64), repeated(1562500, 64)}, {100000000, append(repeated(0, 63), 1000), append(repeated(0, 63), 100000000)}, {100000000, repeated(1000, 10), repeated(10000000, 10)}, {100000000, repeated(1000, 11), []int64{9090909, 9090909, 9090909, 9090909, 9090909, 9090910, 9090909, 9090909, 9090909, 9090909, 9090909}}, {99999999, []int64{1000, 1000}, []int64{50000000, 49999999}},
		{64, repeated(1, 64), repeated(1, 64)}, {64, repeated(1000, 64), repeated(1, 64)},
	} {
		checkSplitTonnes(t, known.tonnes, known.weights, known.want)
	}
}

func TestSplitWithoutWeights(t *testing.T) {
	for _, tonnes := range someTonnes() {
		for _, weights := range [][]int64{nil, {}, {0}, {0, 0, 0}, repeated(0, 64)} {
			got, code := impl.SplitTonnes(tonnes, weights)
			checkNumbers(t, fmt.Sprint("SplitTonnes ", tonnes, weights), got, code, nil, impl.ErrState)
		}
	}
}

func TestRangeOfSplits(t *testing.T) {
	for _, weights := range [][]int64{nil, {0}, {1}, {1, 2, 3}, repeated(0, 64), repeated(1000, 64)} {
		for _, tonnes := range append(otherNumbers(), -1, 100000001) {
			got, code := impl.SplitTonnes(tonnes, weights)
			checkNumbers(t, fmt.Sprint("SplitTonnes ", tonnes, weights), got, code, nil, impl.ErrRange)
		}
	}
	lists := [][]int64{repeated(0, 65), repeated(1, 65), repeated(1000, 65), repeated(-1, 64), repeated(0, 100000)}
	for _, n := range append(otherNumbers(), -1, 1001) {
		// The sum of some of these is 0.
		lists = append(lists, []int64{n}, []int64{n, 1}, []int64{1, n}, append(repeated(1, 63), n), append([]int64{n}, repeated(0, 63)...), []int64{n, -n})
	}
	for _, weights := range lists {
		for _, tonnes := range []int64{-1, 0, 10, 100000000} {
			got, code := impl.SplitTonnes(tonnes, weights)
			checkNumbers(t, fmt.Sprintf("SplitTonnes %d, %.80v", tonnes, weights), got, code, nil, impl.ErrRange)
		}
	}
}

func checkJoinedTonnes(t *testing.T, list []int64, sum, class, wanted int64) {
	t.Helper()
	got, size, code := impl.JoinTonnes(list)
	checkBounds(t, fmt.Sprintf("JoinTonnes %.200v", list), got, size, code, sum, class, wanted)
}

func TestJoinTonnes(t *testing.T) {
	mix := rand.New(rand.NewPCG(12, 65))
	codes := map[int64]int{}
	for range 2000 {
		list, sum := []int64{}, int64(0)
		most := []int64{2, 30, 1000, 3000000, 100000000}[mix.IntN(5)]
		for range mix.IntN(impl.MaxList + 1) {
			n := mix.Int64N(most + 1)
			list, sum = append(list, n), sum+n
		}
		class, wanted := min(5, int64(len(fmt.Sprint(sum)))), int64(impl.OK)
		if sum > 100000000 {
			sum, class, wanted = 0, 0, impl.ErrState
		}
		checkJoinedTonnes(t, list, sum, class, wanted)
		codes[wanted]++
	}
	if codes[impl.OK] < 100 || codes[impl.ErrState] < 100 {
		t.Errorf("too few of some codes: %v", codes)
	}
}

func TestKnownJoinedTonnes(t *testing.T) {
	for _, known := range []struct {
		list       []int64
		sum, class int64
	}{
		{nil, 0, 1}, {[]int64{}, 0, 1}, {[]int64{0}, 0, 1}, {[]int64{5, 6}, 11, 2}, {[]int64{4, 5}, 9, 1}, {[]int64{5, 5}, 10, 2}, {[]int64{50, 49}, 99, 2}, {[]int64{50, 50}, 100, 3}, {[]int64{999, 0}, 999, 3}, {[]int64{999, 1}, 1000, 4}, {[]int64{9998, 1}, 9999, 4}, {[]int64{9998, 1, 1}, 10000, 5}, {repeated(0, 64), 0, 1}, {repeated(1, 64), 64, 2},
		{[]int64{100000000}, 100000000, 5}, {[]int64{100000000, 0, 0}, 100000000, 5}, {[]int64{50000000, 50000000}, 100000000, 5}, {[]int64{99999999, 1}, 100000000, 5}, {repeated(1562500, 64), 100000000, 5},
	} {
		checkJoinedTonnes(t, known.list, known.sum, known.class, impl.OK)
	}
	for _, list := range [][]int64{{100000000, 1}, {1, 100000000}, {50000000, 50000001}, {99999999, 1, 1}, {50000000, 50000000, 1}, append(repeated(1562500, 63), 1562501), repeated(100000000, 64)} {
		checkJoinedTonnes(t, list, 0, 0, impl.ErrState)
	}
}

func TestRangeOfJoins(t *testing.T) {
	for _, list := range [][]int64{repeated(0, 65), repeated(1, 65), repeated(100000000, 65), repeated(0, 100000)} {
		checkJoinedTonnes(t, list, 0, 0, impl.ErrRange)
	}
	for _, n := range append(otherNumbers(), -1, 100000001) {
		for _, list := range [][]int64{{n}, {n, n}, {0, n}, {n, 0}, {n, 100000000, 100000000}, {100000000, 100000000, n}, append(repeated(1, 63), n), slices.Repeat([]int64{n, 5}, 32)} {
			checkJoinedTonnes(t, list, 0, 0, impl.ErrRange)
		}
	}
}
