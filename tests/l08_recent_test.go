package tests

import (
	"fmt"
	"testing"

	"loop.example/g01013/impl"
)

func recentAsTold(list []impl.Test, hour, within int64) []int64 {
	recent := []int64{}
	for i, x := range list {
		if x.Hour <= hour && hour-x.Hour <= within {
			recent = append(recent, int64(i))
		}
	}
	return recent
}

// checkRecent checks which tests are recent, and the mean of their classes.
func checkRecent(t *testing.T, list []impl.Test, hour, within int64) {
	t.Helper()
	what := fmt.Sprintf(" of %d tests, %d and %d", len(list), hour, within)
	recent := recentAsTold(list, hour, within)
	got, code := impl.RecentTests(list, hour, within)
	checkNumbers(t, "RecentTests"+what, got, code, recent, impl.OK)
	want, wanted, sum := int64(0), int64(impl.ErrNotFound), int64(0)
	for _, i := range recent {
		sum += classAsTold(list[i])
		want, wanted = roundedQuotient(100*sum, int64(len(recent))).Int64(), impl.OK
	}
	mean, code := impl.MeanClass(list, hour, within)
	checkCoded(t, "MeanClass"+what, mean, code, want, wanted)
}

func TestRecentTestsAndTheirMeanClass(t *testing.T) {
	for _, list := range append(goodTestLists(), mixedTests(10)...) {
		hours := []int64{0, 1, 299, 300, 301, 99700, 99999, 100000}
		for _, x := range list {
			hours = append(hours, max(0, x.Hour-1), x.Hour, min(100000, x.Hour+1), min(100000, x.Hour+100), min(100000, x.Hour+300))
		}
		for _, hour := range hours {
			for _, within := range []int64{0, 1, 5, 99, 100, 101, 299, 300} {
				checkRecent(t, list, hour, within)
			}
		}
	}
}

func TestKnownRecentTests(t *testing.T) {
	list := testsIn(0, 10, 10, 20, 310, 320, 100000)
	for _, known := range []struct {
		hour, within int64
		want         []int64
	}{
		{0, 0, []int64{0}}, {1, 0, nil}, {10, 0, []int64{1, 2}}, {9, 300, []int64{0}}, {20, 10, []int64{1, 2, 3}}, {20, 9, []int64{3}}, {21, 10, []int64{3}}, {19, 10, []int64{1, 2}}, {19, 19, []int64{0, 1, 2}}, {19, 18, []int64{1, 2}},
		// Some hours are less than within.
		{5, 6, []int64{0}}, {5, 300, []int64{0}}, {5, 5, []int64{0}}, {5, 4, nil}, {0, 300, []int64{0}}, {20, 300, []int64{0, 1, 2, 3}},
		{310, 300, []int64{1, 2, 3, 4}}, {310, 299, []int64{3, 4}}, {311, 300, []int64{3, 4}}, {300, 300, []int64{0, 1, 2, 3}}, {301, 300, []int64{1, 2, 3}}, {320, 300, []int64{3, 4, 5}}, {321, 300, []int64{4, 5}},
		{100000, 0, []int64{6}}, {100000, 300, []int64{6}}, {99999, 300, nil}, {620, 300, []int64{5}}, {621, 300, nil},
	} {
		got, code := impl.RecentTests(list, known.hour, known.within)
		checkNumbers(t, fmt.Sprint("RecentTests of ", known.hour, known.within), got, code, known.want, impl.OK)
		checkRecent(t, list, known.hour, known.within)
	}
}

func TestKnownMeanClasses(t *testing.T) {
	for _, known := range []struct {
		classes      []int64
		hour, within int64
		want, wanted int64
	}{
		{nil, 0, 0, 0, impl.ErrNotFound}, {nil, 100000, 300, 0, impl.ErrNotFound}, {[]int64{1}, 1, 0, 0, impl.ErrNotFound}, {[]int64{1}, 301, 300, 0, impl.ErrNotFound}, {[]int64{3}, 300, 300, 300, impl.OK},
		{[]int64{1}, 0, 0, 100, impl.OK}, {[]int64{4}, 0, 0, 400, impl.OK}, {[]int64{1, 4}, 1, 1, 250, impl.OK}, {[]int64{1, 4}, 1, 0, 400, impl.OK}, {[]int64{1, 4}, 0, 1, 100, impl.OK},
		{[]int64{1, 1, 2}, 2, 2, 133, impl.OK}, {[]int64{1, 2, 2}, 2, 2, 167, impl.OK}, {[]int64{4, 4, 3}, 2, 1, 350, impl.OK},
		// An eighth of 100 lies half between two numbers, and is rounded up.
		{[]int64{1, 1, 1, 1, 1, 1, 1, 2}, 7, 7, 113, impl.OK}, {[]int64{1, 1, 1, 1, 1, 2, 2, 2}, 7, 7, 138, impl.OK}, {[]int64{3, 1, 2, 3, 4}, 3, 2, 200, impl.OK},
	} {
		got, code := impl.MeanClass(testsOf(known.classes...), known.hour, known.within)
		checkCoded(t, fmt.Sprint("MeanClass of ", known.classes, known.hour, known.within), got, code, known.want, known.wanted)
	}
}
