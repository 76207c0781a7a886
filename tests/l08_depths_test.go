package tests

import (
	"fmt"
	"slices"
	"testing"

	"loop.example/g01013/impl"
)

func someNears() []int64 { return []int64{0, 1, 2, 10, 29, 30, 31, 298, 299, 300} }

// checkLists compares lists of numbers and a code with those wanted.
func checkLists(t *testing.T, what string, got [][]int64, code int64, want [][]int64, wanted int64) {
	t.Helper()
	if !slices.EqualFunc(got, want, slices.Equal) || code != wanted {
		t.Errorf("%s = %v, %d, want %v, %d", what, got, code, want, wanted)
	}
}

// areNear reports whether two depths differ by at most near.
func areNear(a, b, near int64) bool { return a-near <= b && b <= a+near }

// weakDepthAsTold asks each depth that there may be, from the least one on.
func weakDepthAsTold(list []impl.Test, near int64) (weakest, most, code int64) {
	code = impl.ErrNotFound
	weak := slices.DeleteFunc(slices.Clone(list), func(x impl.Test) bool { return classAsTold(x) > 2 })
	for depth := int64(1); depth <= 300; depth++ {
		isDepth, many := false, int64(0)
		for _, x := range weak {
			isDepth = isDepth || x.Depth == depth
			if areNear(depth, x.Depth, near) {
				many++
			}
		}
		if isDepth && many > most {
			weakest, most, code = depth, many, impl.OK
		}
	}
	return weakest, most, code
}

func TestWeakDepth(t *testing.T) {
	for _, list := range append(goodTestLists(), mixedTests(30)...) {
		for _, near := range someNears() {
			want, wantMost, wanted := weakDepthAsTold(list, near)
			depth, most, code := impl.WeakDepth(list, near)
			checkBounds(t, "WeakDepth", depth, most, code, want, wantMost, wanted)
		}
	}
}

func TestKnownWeakDepths(t *testing.T) {
	weak := testsAt(2, 100, 50, 110, 60, 200)
	for _, known := range []struct {
		list                      []impl.Test
		near, depth, most, wanted int64
	}{
		{nil, 0, 0, 0, impl.ErrNotFound}, {nil, 300, 0, 0, impl.ErrNotFound}, {testsAt(3, 5, 5, 5), 300, 0, 0, impl.ErrNotFound}, {testsAt(4, 5), 300, 0, 0, impl.ErrNotFound}, {testsAt(1, 5), 0, 5, 1, impl.OK}, {testsAt(2, 300), 300, 300, 1, impl.OK},
		{[]impl.Test{testOf(1, 70, 0), testOf(3, 71, 1), testOf(4, 71, 2), testOf(2, 71, 3)}, 0, 70, 1, impl.OK}, {[]impl.Test{testOf(3, 20, 0), testOf(3, 20, 1), testOf(2, 90, 3)}, 300, 90, 1, impl.OK},
		// Several depths have equally many weak tests near them.
		{weak, 0, 50, 1, impl.OK}, {weak, 9, 50, 1, impl.OK}, {weak, 10, 50, 2, impl.OK}, {weak, 39, 50, 2, impl.OK}, {weak, 40, 60, 3, impl.OK}, {weak, 49, 60, 3, impl.OK}, {weak, 50, 60, 4, impl.OK}, {weak, 59, 60, 4, impl.OK}, {weak, 60, 50, 4, impl.OK}, {weak, 89, 50, 4, impl.OK}, {weak, 90, 110, 5, impl.OK}, {weak, 100, 100, 5, impl.OK}, {weak, 150, 50, 5, impl.OK},
		{testsAt(1, 9, 3, 9, 3, 6), 0, 3, 2, impl.OK}, {testsAt(1, 9, 3, 9, 6), 0, 9, 2, impl.OK}, {testsAt(1, 9, 3, 9, 3, 6), 3, 6, 5, impl.OK}, {testsAt(1, 9, 3, 9, 3, 6), 2, 3, 2, impl.OK}, {testsAt(1, 300, 1), 299, 1, 2, impl.OK}, {testsAt(1, 300, 1), 298, 1, 1, impl.OK}, {testsAt(2, repeated(7, impl.MaxTests)...), 0, 7, 16, impl.OK},
	} {
		depth, most, code := impl.WeakDepth(known.list, known.near)
		checkBounds(t, fmt.Sprint("WeakDepth of ", known.list, known.near), depth, most, code, known.depth, known.most, known.wanted)
	}
}

func TestContradictTests(t *testing.T) {
	for _, list := range append(goodTestLists(), mixedTests(30)...) {
		for _, near := range someNears() {
			want := [][]int64{}
			// All pairs are counted up, so that they are in lexicographic order.
			for n := range int64(len(list) * len(list)) {
				i, k := n/int64(len(list)), n%int64(len(list))
				gap := classAsTold(list[i]) - classAsTold(list[k])
				if i < k && areNear(list[i].Depth, list[k].Depth, near) && gap*gap >= 4 {
					want = append(want, []int64{i, k})
				}
			}
			got, code := impl.ContradictTests(list, near)
			checkLists(t, fmt.Sprint("ContradictTests of ", list, near), got, code, want, impl.OK)
		}
	}
}

func TestKnownContradictTests(t *testing.T) {
	mixed := []impl.Test{testOf(4, 50, 0), testOf(1, 60, 0), testOf(3, 55, 0), testOf(2, 61, 0), testOf(1, 45, 0)}
	for _, known := range []struct {
		list []impl.Test
		near int64
		want [][]int64
	}{
		{nil, 0, nil}, {testsOf(1), 300, nil}, {testsOf(1, 2), 300, nil}, {testsOf(1, 3), 0, [][]int64{{0, 1}}}, {testsOf(3, 1), 0, [][]int64{{0, 1}}}, {testsOf(2, 3), 300, nil}, {testsOf(4, 2), 300, [][]int64{{0, 1}}}, {testsOf(1, 4), 300, [][]int64{{0, 1}}}, {testsOf(4, 1), 300, [][]int64{{0, 1}}}, {testsOf(2, 2, 2), 300, nil},
		{testsOf(1, 2, 3, 4), 0, [][]int64{{0, 2}, {0, 3}, {1, 3}}}, {testsOf(4, 3, 2, 1), 0, [][]int64{{0, 2}, {0, 3}, {1, 3}}}, {testsOf(1, 4, 1, 4), 0, [][]int64{{0, 1}, {0, 3}, {1, 2}, {2, 3}}},
		{mixed, 0, nil}, {mixed, 4, nil}, {mixed, 5, [][]int64{{0, 4}, {1, 2}}}, {mixed, 9, [][]int64{{0, 4}, {1, 2}}}, {mixed, 10, [][]int64{{0, 1}, {0, 4}, {1, 2}, {2, 4}}}, {mixed, 11, [][]int64{{0, 1}, {0, 3}, {0, 4}, {1, 2}, {2, 4}}}, {mixed, 300, [][]int64{{0, 1}, {0, 3}, {0, 4}, {1, 2}, {2, 4}}},
		{[]impl.Test{testOf(1, 1, 0), testOf(4, 300, 0)}, 299, [][]int64{{0, 1}}}, {[]impl.Test{testOf(1, 1, 0), testOf(4, 300, 0)}, 298, nil}, {[]impl.Test{testOf(1, 300, 0), testOf(4, 1, 0)}, 299, [][]int64{{0, 1}}}, {[]impl.Test{testOf(1, 300, 0), testOf(4, 1, 0)}, 298, nil},
	} {
		got, code := impl.ContradictTests(known.list, known.near)
		checkLists(t, fmt.Sprint("ContradictTests of ", known.list, known.near), got, code, known.want, impl.OK)
	}
	got, code := impl.ContradictTests(testsOf(1, 1, 1, 1, 1, 1, 1, 1, 3, 3, 3, 3, 3, 3, 3, 3), 0)
	if len(got) != 64 || code != impl.OK || !slices.IsSortedFunc(got, slices.Compare) {
		t.Errorf("ContradictTests of two halves = %v, %d", got, code)
	}
}

// groupsAsTold joins groups as long as two of them have tests near each other.
func groupsAsTold(list []impl.Test, near int64) [][]int64 {
	groups := [][]int64{}
	for i := range list {
		group := []int64{int64(i)}
		rest := [][]int64{}
		for _, other := range groups {
			if slices.ContainsFunc(other, func(k int64) bool { return areNear(list[i].Depth, list[k].Depth, near) }) {
				group = append(group, other...)
			} else {
				rest = append(rest, other)
			}
		}
		slices.Sort(group)
		groups = append(rest, group)
	}
	slices.SortFunc(groups, func(a, b []int64) int { return int(list[a[0]].Depth - list[b[0]].Depth) })
	return groups
}

// checkOneGroupEach is the other half of the ninth promise.
func checkOneGroupEach(t *testing.T, list []impl.Test, near int64, groups [][]int64) {
	t.Helper()
	all := slices.Sorted(slices.Values(slices.Concat(groups...)))
	for i := range int64(len(list)) {
		if len(all) != len(list) || all[i] != i {
			t.Fatalf("%d tests are in the groups %v", len(list), groups)
		}
	}
	for i, group := range groups {
		if len(group) == 0 || !slices.IsSorted(group) {
			t.Errorf("a group is %v", group)
		}
		for _, other := range groups[i+1:] {
			for _, k := range group {
				if slices.ContainsFunc(other, func(n int64) bool { return list[n].Depth <= list[k].Depth+near }) {
					t.Errorf("%v and %v are two groups of %v with %d", group, other, list, near)
				}
			}
		}
	}
}

func TestDepthGroups(t *testing.T) {
	for _, list := range append(goodTestLists(), mixedTests(30)...) {
		for _, near := range someNears() {
			got, code := impl.DepthGroups(list, near)
			checkLists(t, fmt.Sprint("DepthGroups of ", list, near), got, code, groupsAsTold(list, near), impl.OK)
			checkOneGroupEach(t, list, near, got)
		}
	}
}

func TestKnownDepthGroups(t *testing.T) {
	for _, known := range []struct {
		depths []int64
		near   int64
		want   [][]int64
	}{
		{nil, 0, nil}, {nil, 300, nil}, {[]int64{5}, 0, [][]int64{{0}}}, {[]int64{5, 5}, 0, [][]int64{{0, 1}}}, {[]int64{5, 6}, 0, [][]int64{{0}, {1}}}, {[]int64{6, 5}, 0, [][]int64{{1}, {0}}}, {[]int64{6, 5}, 1, [][]int64{{0, 1}}},
		{[]int64{30, 10, 20}, 9, [][]int64{{1}, {2}, {0}}}, {[]int64{30, 10, 20}, 10, [][]int64{{0, 1, 2}}}, {[]int64{30, 10, 21}, 10, [][]int64{{1}, {0, 2}}}, {[]int64{30, 10, 19}, 10, [][]int64{{1, 2}, {0}}},
		// A chain of tests, each near to the next, and one that is broken.
		{[]int64{80, 10, 60, 30, 50, 20, 70, 40}, 10, [][]int64{{0, 1, 2, 3, 4, 5, 6, 7}}}, {[]int64{81, 10, 61, 30, 51, 20, 71, 40}, 10, [][]int64{{1, 3, 5, 7}, {0, 2, 4, 6}}}, {[]int64{80, 10, 60, 30, 50, 20, 70, 40}, 9, [][]int64{{1}, {5}, {3}, {7}, {4}, {2}, {6}, {0}}},
		{[]int64{9, 3, 9, 3, 9, 3}, 0, [][]int64{{1, 3, 5}, {0, 2, 4}}}, {[]int64{9, 3, 9, 3, 9, 3}, 5, [][]int64{{1, 3, 5}, {0, 2, 4}}}, {[]int64{9, 3, 9, 3, 9, 3}, 6, [][]int64{{0, 1, 2, 3, 4, 5}}},
		{[]int64{300, 1}, 298, [][]int64{{1}, {0}}}, {[]int64{300, 1}, 299, [][]int64{{0, 1}}}, {[]int64{1, 300}, 300, [][]int64{{0, 1}}}, {repeated(4, impl.MaxTests), 0, [][]int64{{0, 1, 2, 3, 4, 5, 6, 7, 8, 9, 10, 11, 12, 13, 14, 15}}},
	} {
		got, code := impl.DepthGroups(testsAt(3, known.depths...), known.near)
		checkLists(t, fmt.Sprint("DepthGroups of ", known.depths, known.near), got, code, known.want, impl.OK)
	}
}
