package tests

import (
	"fmt"
	"math/rand/v2"
	"slices"
	"testing"

	"loop.example/g01013/impl"
)

// testOf returns a test with a class and a quality of 2.
func testOf(class, depth, hour int64) impl.Test {
	return impl.Test{Kind: impl.TsColumn, Score: []int64{0, 20, 25, 31}[class-1], Quality: 2, Depth: depth, Hour: hour}
}

// testsOf returns tests with some classes at the same depth, one in each hour.
func testsOf(classes ...int64) []impl.Test {
	tests := []impl.Test{}
	for i, class := range classes {
		tests = append(tests, testOf(class, 50, int64(i)))
	}
	return tests
}

// testsAt returns tests of the same class at some depths.
func testsAt(class int64, depths ...int64) []impl.Test {
	tests := []impl.Test{}
	for i, depth := range depths {
		tests = append(tests, testOf(class, depth, int64(i)))
	}
	return tests
}

// testsIn returns tests in some hours.
func testsIn(hours ...int64) []impl.Test {
	tests := []impl.Test{}
	for i, hour := range hours {
		tests = append(tests, testOf(int64(i)%4+1, 50, hour))
	}
	return tests
}

// mixedTest has numbers that often are those of another one.
func mixedTest(mix *rand.Rand, hour int64) impl.Test {
	kind := mix.Int64N(3) + 1
	scores := testFields(kind)[0]
	depth := []int64{mix.Int64N(300) + 1, mix.Int64N(12) + 1, mix.Int64N(4)*30 + 1, 1 + mix.Int64N(2)*299}[mix.IntN(4)]
	return impl.Test{Kind: kind, Score: scores.least + mix.Int64N(scores.greatest-scores.least+1), Quality: mix.Int64N(3) + 1, Depth: depth, Hour: hour}
}

// mixedTests holds lists that are always the same, so many of each length.
func mixedTests(count int) [][]impl.Test {
	mix := rand.New(rand.NewPCG(8, 2026))
	lists := [][]impl.Test{}
	for length := range impl.MaxTests + 1 {
		for range count {
			list, hour := []impl.Test{}, mix.Int64N(400)
			for range length {
				list = append(list, mixedTest(mix, hour))
				hour += []int64{0, 0, 1, 5, mix.Int64N(100)}[mix.IntN(5)]
			}
			lists = append(lists, list)
		}
	}
	return lists
}

// goodTestLists holds valid tests, from none to as many as may be.
func goodTestLists() [][]impl.Test {
	lists := [][]impl.Test{
		nil, {}, testsOf(1, 2, 3, 4), testsOf(4, 3, 2, 1), testsAt(1, 300, 1, 150), testsIn(0, 0), testsIn(7, 7, 7), testsIn(0, 100000), testsIn(1, 2, 2, 3),
		slices.Repeat([]impl.Test{goodTest(impl.TsBlock)}, impl.MaxTests), slices.Repeat([]impl.Test{goodTest(impl.TsExtended)}, impl.MaxTests-1),
	}
	for _, x := range limitTests() {
		lists = append(lists, []impl.Test{x}, []impl.Test{x, x})
	}
	return append(lists, mixedTests(2)...)
}

// badTestLists holds tests that are too many, not as stated, or not in the order of their hours.
func badTestLists() [][]impl.Test {
	lists := [][]impl.Test{
		slices.Repeat([]impl.Test{goodTest(impl.TsColumn)}, impl.MaxTests+1), slices.Repeat([]impl.Test{goodTest(impl.TsColumn)}, 5000), make([]impl.Test, impl.MaxTests), make([]impl.Test, impl.MaxTests+1),
		testsIn(1, 0), testsIn(100000, 0), testsIn(100000, 99999), testsIn(5, 5, 4), testsIn(5, 4, 5), testsIn(4, 3, 5), testsIn(1, 9, 2, 10), testsIn(0, 1, 2, 3, 4, 5, 6, 7, 8, 9, 10, 11, 12, 13, 15, 14), testsIn(1, 0, 2, 3, 4, 5, 6, 7, 8, 9, 10, 11, 12, 13, 14, 15),
	}
	for _, x := range badTests() {
		lists = append(lists, []impl.Test{x}, []impl.Test{goodTest(impl.TsColumn), x}, []impl.Test{x, testOf(1, 1, 100000)})
		many := slices.Repeat([]impl.Test{testOf(2, 7, x.Hour)}, impl.MaxTests)
		many[impl.MaxTests/2] = x
		lists = append(lists, many)
	}
	return lists
}

func TestValidTests(t *testing.T) {
	for _, list := range goodTestLists() {
		if !impl.ValidTests(list) {
			t.Errorf("ValidTests(%v) = false", list)
		}
	}
	for _, list := range badTestLists() {
		if impl.ValidTests(list) {
			t.Errorf("ValidTests of %d tests = true", len(list))
		}
	}
	for count := range 40 {
		if got := impl.ValidTests(slices.Repeat([]impl.Test{goodTest(impl.TsColumn)}, count)); got != (count <= 16) {
			t.Errorf("ValidTests of %d tests = %v", count, got)
		}
	}
	for _, x := range badTests() {
		for place := range 3 {
			list := testsIn(0, 50000, 100000)
			list[place] = x
			if impl.ValidTests(list) {
				t.Errorf("ValidTests(%v) = true", list)
			}
		}
	}
}

func TestValidTestsInOrder(t *testing.T) {
	for a := range int64(4) {
		for b := range int64(4) {
			for c := range int64(4) {
				if got := impl.ValidTests(testsIn(a, b, c)); got != (a <= b && b <= c) {
					t.Errorf("ValidTests in the hours %d, %d and %d = %v", a, b, c, got)
				}
			}
		}
	}
}

func TestWorstClass(t *testing.T) {
	for _, list := range append(goodTestLists(), mixedTests(20)...) {
		want, wanted := int64(0), int64(impl.ErrNotFound)
		for _, x := range list {
			if class := classAsTold(x); wanted != impl.OK || class < want {
				want, wanted = class, impl.OK
			}
		}
		got, code := impl.WorstClass(list)
		checkCoded(t, "WorstClass", got, code, want, wanted)
	}
	for class := int64(1); class <= 4; class++ {
		for place := range impl.MaxTests {
			classes := repeated(4, impl.MaxTests)
			classes[place] = class
			got, code := impl.WorstClass(testsOf(classes...))
			checkCoded(t, "WorstClass", got, code, class, impl.OK)
		}
	}
	got, code := impl.WorstClass(testsOf(3, 2, 4, 2))
	checkCoded(t, "WorstClass", got, code, 2, impl.OK)
}

// agreeAsTold counts for each class, and rounds to the nearest thousandth.
func agreeAsTold(list []impl.Test) int64 {
	most := int64(0)
	for class := int64(1); class <= 4; class++ {
		count := int64(0)
		for _, x := range list {
			if classAsTold(x) == class {
				count++
			}
		}
		most = max(most, count)
	}
	return roundedQuotient(1000*most, int64(len(list))).Int64()
}

func TestAgreeOf(t *testing.T) {
	for _, list := range append(goodTestLists(), mixedTests(20)...) {
		want, wanted := int64(0), int64(impl.ErrNotFound)
		if len(list) > 0 {
			want, wanted = agreeAsTold(list), impl.OK
		}
		got, code := impl.AgreeOf(list)
		checkCoded(t, "AgreeOf", got, code, want, wanted)
	}
	for _, known := range []struct {
		classes []int64
		want    int64
	}{
		{[]int64{1}, 1000}, {[]int64{4}, 1000}, {[]int64{1, 2}, 500}, {[]int64{1, 2, 3}, 333}, {[]int64{1, 2, 2}, 667}, {[]int64{1, 2, 3, 4}, 250}, {[]int64{4, 1, 4, 1}, 500}, {[]int64{3, 3, 3}, 1000},
		// Two classes agree equally often, and so do three.
		{[]int64{1, 1, 2, 2, 3}, 400}, {[]int64{1, 2, 3, 1, 2, 3, 4}, 286}, {[]int64{4, 4, 2, 3, 3, 2}, 333}, {repeated(2, impl.MaxTests), 1000}, {append(repeated(1, 7), repeated(3, 9)...), 563}, {append(repeated(1, 8), repeated(3, 8)...), 500},
		{append(repeated(2, 5), 1, 1, 1, 1, 3, 3, 3, 4, 4, 4, 4), 313},
	} {
		got, code := impl.AgreeOf(testsOf(known.classes...))
		checkCoded(t, fmt.Sprint("AgreeOf of the classes ", known.classes), got, code, known.want, impl.OK)
	}
	// Different kinds and scores may have the same class.
	got, code := impl.AgreeOf([]impl.Test{{Kind: 1, Score: 10, Quality: 2, Depth: 1}, {Kind: 2, Score: 13, Quality: 2, Depth: 2}, {Kind: 3, Score: 3, Quality: 1, Depth: 3}, {Kind: 3, Score: 2, Quality: 3, Depth: 4}})
	checkCoded(t, "AgreeOf of other kinds", got, code, 750, impl.OK)
}

func TestKindsUsed(t *testing.T) {
	for _, list := range append(goodTestLists(), mixedTests(20)...) {
		want := []int64{}
		for _, kind := range testKinds() {
			if slices.ContainsFunc(list, func(x impl.Test) bool { return x.Kind == kind }) {
				want = append(want, kind)
			}
		}
		got, code := impl.KindsUsed(list)
		checkNumbers(t, "KindsUsed", got, code, want, impl.OK)
	}
	for _, known := range []struct{ kinds, want []int64 }{
		{nil, nil}, {[]int64{3}, []int64{3}}, {[]int64{2, 2}, []int64{2}}, {[]int64{3, 1}, []int64{1, 3}}, {[]int64{3, 2, 1}, []int64{1, 2, 3}}, {[]int64{2, 1, 2, 1}, []int64{1, 2}}, {repeated(1, impl.MaxTests), []int64{1}}, {append(repeated(3, 15), 2), []int64{2, 3}},
	} {
		list := []impl.Test{}
		for _, kind := range known.kinds {
			list = append(list, goodTest(kind))
		}
		got, code := impl.KindsUsed(list)
		checkNumbers(t, fmt.Sprint("KindsUsed of ", known.kinds), got, code, known.want, impl.OK)
	}
}
