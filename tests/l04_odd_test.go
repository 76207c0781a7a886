package tests

import (
	"slices"
	"testing"

	"loop.example/g01013/impl"
)

// oddAsTold allows a change for each hour from one observation to another one.
func oddAsTold(before, x impl.Observed, snow, degrees int64) bool {
	moreSnow, moreDegrees := int64(0), int64(0)
	for hour := before.Hour; hour < x.Hour; hour++ {
		moreSnow += snow
		moreDegrees += degrees
	}
	return x.Snow > before.Snow+moreSnow || x.Snow < before.Snow-moreSnow || x.Degrees > before.Degrees+moreDegrees || x.Degrees < before.Degrees-moreDegrees
}

// checkOdd compares OddObserved and WithoutOdd with what chapter 4 tells for valid observations.
func checkOdd(t *testing.T, list []impl.Observed, snow, degrees int64) {
	t.Helper()
	indices, left := []int64{}, []impl.Observed{}
	for i, x := range list {
		if i > 0 && oddAsTold(list[i-1], x, snow, degrees) {
			indices = append(indices, int64(i))
		}
		if i == 0 || !oddAsTold(left[len(left)-1], x, snow, degrees) {
			left = append(left, x)
		}
	}
	got, code := impl.OddObserved(list, snow, degrees)
	checkNumbers(t, "OddObserved", got, code, indices, impl.OK)
	rest, code := impl.WithoutOdd(list, snow, degrees)
	checkStation(t, "WithoutOdd", rest, code, left, impl.OK)
	checkNothingOdd(t, rest, snow, degrees)
}

// checkNothingOdd checks that what WithoutOdd has left is valid and has nothing odd, so that all of it stays.
func checkNothingOdd(t *testing.T, left []impl.Observed, snow, degrees int64) {
	t.Helper()
	got, code := impl.OddObserved(left, snow, degrees)
	checkNumbers(t, "OddObserved of what is left", got, code, nil, impl.OK)
	again, code := impl.WithoutOdd(left, snow, degrees)
	checkStation(t, "WithoutOdd of what is left", again, code, left, impl.OK)
}

func TestOddObservations(t *testing.T) {
	changes := []int64{0, 1, 2, 3, 5, 8, 9, 10, 11, 50, 99, 100, 200, 305, 1000, 2999, 3000, 3001, 9999, 10000}
	for _, list := range goodStations() {
		for _, snow := range changes {
			for _, degrees := range changes {
				checkOdd(t, list, snow, degrees)
			}
		}
	}
}

// pairAt returns two observations, the second one hours later and with so much more.
func pairAt(hours, snow, degrees int64) []impl.Observed {
	return []impl.Observed{{Hour: 10, Snow: 1000, Degrees: 20}, {Hour: 10 + hours, Snow: 1000 + snow, Degrees: 20 + degrees}}
}

func TestOddAtTheAllowedChange(t *testing.T) {
	for hours := int64(1); hours <= 9; hours++ {
		for _, allowed := range []int64{0, 1, 7, 100} {
			for _, sign := range []int64{-1, 1} {
				just, more := sign*allowed*hours, sign*(allowed*hours+1)
				for _, c := range []struct {
					list          []impl.Observed
					snow, degrees int64
					isOdd         bool
				}{
					{pairAt(hours, just, 0), allowed, 0, false}, {pairAt(hours, more, 0), allowed, 0, true}, {pairAt(hours, more, 0), allowed, 10000, true},
					{pairAt(hours, 0, just), 0, allowed, false}, {pairAt(hours, 0, more), 0, allowed, true}, {pairAt(hours, 0, more), 10000, allowed, true},
					{pairAt(hours, just, just), allowed, allowed, false}, {pairAt(hours, just, -just), allowed, allowed, false}, {pairAt(hours, more, more), allowed, allowed, true}, {pairAt(hours, -more, more), allowed, allowed, true},
				} {
					checkPair(t, c.list, c.snow, c.degrees, c.isOdd)
				}
			}
		}
	}
}

// checkPair checks whether the second one of at most two observations is odd.
func checkPair(t *testing.T, list []impl.Observed, snow, degrees int64, isOdd bool) {
	t.Helper()
	indices, left := []int64{}, list
	if isOdd {
		indices, left = []int64{1}, list[:1]
	}
	got, code := impl.OddObserved(list, snow, degrees)
	checkNumbers(t, "OddObserved of two", got, code, indices, impl.OK)
	rest, code := impl.WithoutOdd(list, snow, degrees)
	checkStation(t, "WithoutOdd of two", rest, code, left, impl.OK)
}

func TestOddWithManyHoursBetween(t *testing.T) {
	for _, c := range []struct {
		hours, snow, degrees int64
		allowed, more        int64
		isOdd                bool
	}{
		{1, 1000, 4980, 1000, 4980, false}, {1, 1000, 4980, 999, 4980, true}, {1, 1000, 4980, 1000, 4979, true}, {99990, 1000, 4980, 1, 1, false}, {99990, 1000, 4980, 0, 1, true}, {99990, 1000, 4980, 1, 0, true}, {99990, 1000, 4980, 10000, 10000, false},
		{1000, 1000, 0, 1, 0, false}, {999, 1000, 0, 1, 0, true}, {999, -1000, 0, 1, 0, true}, {1000, -1000, 0, 1, 0, false}, {2490, 0, 4980, 0, 2, false}, {2489, 0, 4980, 0, 2, true},
	} {
		checkPair(t, pairAt(c.hours, c.snow, c.degrees), c.allowed, c.more, c.isOdd)
	}
	checkPair(t, []impl.Observed{leastObserved(), greatestObserved()}, 0, 0, true)
	checkPair(t, []impl.Observed{leastObserved(), greatestObserved()}, 1, 1, false)
}

// The first observation is never odd, whatever it is, and one that is all zeros is one before the next one.
func TestOddAtTheBeginning(t *testing.T) {
	for _, x := range []impl.Observed{{}, leastObserved(), greatestObserved(), {Hour: 1, Snow: 2000, Degrees: 5000}} {
		checkPair(t, []impl.Observed{x}, 0, 0, false)
	}
	checkPair(t, []impl.Observed{{}, {Hour: 1, Snow: 1}}, 0, 0, true)
	checkPair(t, nil, 0, 0, false)
}

func TestOddBehindOdd(t *testing.T) {
	for _, c := range []struct {
		snow    []int64
		indices []int64
		left    []int64
	}{
		// A peak is odd on both sides compared with the one before, but only itself compared with the last one left.
		{[]int64{10, 90, 10, 10}, []int64{1, 2}, []int64{0, 2, 3}},
		// Two high ones: the second one is not odd compared with the first one, but compared with what is left.
		{[]int64{10, 90, 90, 10}, []int64{1, 3}, []int64{0, 3}},
		// A step that stays is allowed when enough hours have passed since the last one left.
		{[]int64{10, 35, 35, 35, 35}, []int64{1}, []int64{0, 3, 4}},
		{[]int64{10, 90, 170, 250, 50}, []int64{1, 2, 3, 4}, []int64{0, 4}},
		{[]int64{10, 90, 170, 250, 51}, []int64{1, 2, 3, 4}, []int64{0}},
		{[]int64{10, 20, 30, 40}, nil, []int64{0, 1, 2, 3}},
		{[]int64{10, 21, 31, 20, 9}, []int64{1, 3, 4}, []int64{0, 3}},
		{[]int64{50, 0, 0, 0, 0, 0}, []int64{1}, []int64{0, 5}},
	} {
		list, left := []impl.Observed{}, []impl.Observed{}
		for i, snow := range c.snow {
			list = append(list, impl.Observed{Hour: 5 + int64(i), Snow: snow, Wind: int64(i)})
		}
		for _, i := range c.left {
			left = append(left, list[i])
		}
		got, code := impl.OddObserved(list, 10, 0)
		checkNumbers(t, "OddObserved", got, code, c.indices, impl.OK)
		rest, code := impl.WithoutOdd(list, 10, 0)
		checkStation(t, "WithoutOdd", rest, code, left, impl.OK)
	}
}

func TestOddByDegreesBehindOdd(t *testing.T) {
	list := []impl.Observed{{Hour: 1, Degrees: 0}, {Hour: 2, Degrees: -400}, {Hour: 4, Degrees: -500}, {Hour: 6, Degrees: -500}, {Hour: 9, Degrees: 500}}
	got, code := impl.OddObserved(list, 0, 100)
	checkNumbers(t, "OddObserved", got, code, []int64{1, 4}, impl.OK)
	rest, code := impl.WithoutOdd(list, 0, 100)
	checkStation(t, "WithoutOdd", rest, code, []impl.Observed{list[0], list[3]}, impl.OK)
}

func TestMostAreOdd(t *testing.T) {
	list := stationOf(impl.MaxObserved, 0, 1)
	want := []int64{}
	for i := range list {
		list[i].Snow = int64(i) % 2 * 2000
		if i > 0 {
			want = append(want, int64(i))
		}
	}
	got, code := impl.OddObserved(list, 40, 10000)
	checkNumbers(t, "OddObserved", got, code, want, impl.OK)
	rest, code := impl.WithoutOdd(list, 40, 10000)
	checkStation(t, "WithoutOdd", rest, code, slices.DeleteFunc(slices.Clone(list), func(x impl.Observed) bool { return x.Snow > 0 }), impl.OK)
}

func TestOddWithOtherNumbers(t *testing.T) {
	for _, n := range append(otherNumbers(), -1, 10001) {
		for _, c := range [][2]int64{{n, 0}, {0, n}, {n, n}, {n, 10000}, {10000, n}} {
			for _, list := range goodStations() {
				got, code := impl.OddObserved(list, c[0], c[1])
				checkNumbers(t, "OddObserved", got, code, nil, impl.ErrRange)
				rest, code := impl.WithoutOdd(list, c[0], c[1])
				checkStation(t, "WithoutOdd", rest, code, nil, impl.ErrRange)
			}
			for _, list := range badStations() {
				checkOddInvalid(t, list, c[0], c[1])
			}
		}
	}
	for _, list := range badStations() {
		checkOddInvalid(t, list, 0, 0)
		checkOddInvalid(t, list, 10000, 10000)
	}
}

func checkOddInvalid(t *testing.T, list []impl.Observed, snow, degrees int64) {
	t.Helper()
	got, code := impl.OddObserved(list, snow, degrees)
	checkNumbers(t, "OddObserved", got, code, nil, impl.ErrInvalid)
	rest, code := impl.WithoutOdd(list, snow, degrees)
	checkStation(t, "WithoutOdd", rest, code, nil, impl.ErrInvalid)
}
