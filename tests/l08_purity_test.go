package tests

import (
	"math"
	"reflect"
	"slices"
	"strings"
	"testing"

	"loop.example/g01013/impl"
)

// Each function has exactly the type that chapter 8 gives.
var (
	_ func(int64) string                               = impl.TestName
	_ func([]impl.Test) bool                           = impl.ValidTests
	_ func(impl.Test) (int64, int64)                   = impl.ClassOf
	_ func([]impl.Test) (int64, int64)                 = impl.WorstClass
	_ func([]impl.Test, int64, int64) (int64, int64)   = impl.MeanClass
	_ func([]impl.Test) (int64, int64)                 = impl.AgreeOf
	_ func([]impl.Test, int64) (int64, int64, int64)   = impl.WeakDepth
	_ func([]impl.Test, int64, int64) ([]int64, int64) = impl.RecentTests
	_ func([]impl.Test) ([]int64, int64)               = impl.KindsUsed
	_ func([]impl.Test, int64) ([][]int64, int64)      = impl.ContradictTests
	_ func([]impl.Test, int64) ([][]int64, int64)      = impl.DepthGroups
	_ func(impl.Test) string                           = impl.TestText
	_ func(string) (impl.Test, bool)                   = impl.ReadTest
	_                                                  = struct{ Kind, Score, Quality, Depth, Hour int64 }(impl.Test{})
)

// testResults holds the results of all functions of chapter 8 that take tests.
func testResults(list []impl.Test, q testQuestion) []any {
	results := []any{impl.ValidTests(list)}
	for _, x := range list {
		results = append(results, valuesOf(impl.ClassOf(x)), impl.TestText(x), impl.TestName(x.Kind))
	}
	for _, f := range testFunctions() {
		answers, code := f.call(list, q)
		results = append(results, answers, code)
	}
	return results
}

// checkEqualTests checks that equal arguments give equal results.
func checkEqualTests(t *testing.T, list []impl.Test, q testQuestion) {
	t.Helper()
	first, second := testResults(list, q), testResults(slices.Clone(list), q)
	if !reflect.DeepEqual(first, second) {
		t.Errorf("%v and %v: %v, then %v", list, q, first, second)
	}
}

func TestTestsStayAsTheyWere(t *testing.T) {
	lists := append(append(goodTestLists(), mixedTests(10)...), badTestLists()...)
	for _, list := range lists {
		for _, q := range []testQuestion{answeredQuestion(), {}, {hour: 100000, within: 300, near: 300}, {hour: -1, within: -1, near: -1}} {
			// Spare tests behind the list show a change of its unused capacity.
			whole := slices.Concat(list, testsOf(4, 1, 3))
			before := slices.Clone(whole)
			checkEqualTests(t, whole[:len(list)], q)
			if !slices.Equal(whole, before) {
				t.Errorf("%d tests were changed", len(list))
			}
		}
	}
}

func TestTestsReturnForOddNumbers(t *testing.T) {
	numbers := append(append(oddNumbers(), otherNumbers()...), 3, 4, 299, 300, 301, 99999, 100000, 100001)
	for _, list := range [][]impl.Test{nil, {}, answeredTests(), testsOf(1, 2, 3, 4, 3, 2, 1), {{}, {}}, {goodTest(3), goodTest(4)}} {
		for _, a := range numbers {
			for _, b := range numbers {
				checkEqualTests(t, list, testQuestion{hour: a, within: b, near: b})
			}
		}
	}
}

func TestOddTestsReturn(t *testing.T) {
	for _, a := range append(oddNumbers(), 3, 4) {
		for _, b := range append(oddNumbers(), 31, 32) {
			checkEqualTests(t, []impl.Test{{Kind: a, Score: b, Quality: 2, Depth: 5, Hour: 6}, {Kind: 1, Score: a, Quality: b, Depth: a, Hour: b}}, testQuestion{hour: 20, within: 20, near: 5})
			checkEqualTests(t, []impl.Test{{Kind: a, Score: a, Quality: a, Depth: a, Hour: a}, {Kind: b, Score: b, Quality: b, Depth: b, Hour: b}}, testQuestion{})
		}
	}
	checkEqualTests(t, slices.Repeat([]impl.Test{{Kind: math.MinInt64}}, 100000), testQuestion{})
}

func TestReadTestReturnsForOddTexts(t *testing.T) {
	for _, s := range append(oddTexts(), "column 5,2,40,12", "block 5,2,40,12", strings.Repeat("column 5,2,40,12 ", 10000), strings.Repeat("\xff ", 100000)) {
		first, isFirst := impl.ReadTest(s)
		second, isSecond := impl.ReadTest(strings.Clone(s))
		if first != second || isFirst != isSecond {
			t.Errorf("ReadTest(%.20q) = %v, %v, then %v, %v", s, first, isFirst, second, isSecond)
		}
	}
}

// listsOfTests holds all lists that the functions of chapter 8 make from tests.
func listsOfTests(list []impl.Test, near int64) [][]int64 {
	recent, _ := impl.RecentTests(list, 200, 300)
	kinds, _ := impl.KindsUsed(list)
	pairs, _ := impl.ContradictTests(list, near)
	groups, _ := impl.DepthGroups(list, near)
	return slices.Concat([][]int64{recent, kinds}, pairs, groups)
}

func TestListsOfTestsAreNewMemory(t *testing.T) {
	for _, list := range append(goodTestLists(), mixedTests(20)...) {
		for _, near := range []int64{0, 30, 300} {
			first, second := listsOfTests(list, near), listsOfTests(list, near)
			for i := range first {
				// The unused capacity of one list may not be part of another one either.
				overwrite(first[i][:cap(first[i])], -99)
				for k := range first {
					if k > i && !slices.Equal(first[k], second[k]) {
						t.Fatalf("two lists of %v share memory", list)
					}
				}
			}
			if again := listsOfTests(list, near); !slices.EqualFunc(again, second, slices.Equal) {
				t.Errorf("%v and then %v", second, again)
			}
		}
	}
}
