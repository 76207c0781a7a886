package tests

import (
	"reflect"
	"slices"
	"strings"
	"testing"

	"loop.example/g01013/impl"
)

// Each function has exactly the type that chapter 12 gives.
var (
	_ func([]impl.Part) bool                                = impl.ValidParts
	_ func(int64, int64) (int64, int64)                     = impl.SlabVolume
	_ func(int64, int64, int64) (int64, int64)              = impl.SlabTonnes
	_ func(int64) (int64, int64)                            = impl.SizeClass
	_ func([]impl.Part, int64, int64) ([]int64, int64)      = impl.GrowthOf
	_ func([]impl.Part, int64, int64) (int64, int64, int64) = impl.LargestMass
	_ func([]impl.Part, int64, int64) (int64, int64)        = impl.LeastStart
	_ func(int64, []int64) ([]int64, int64)                 = impl.SplitTonnes
	_ func(int64, int64, int64) (int64, int64)              = impl.DepositDepth
	_ func([]int64) (int64, int64, int64)                   = impl.JoinTonnes
	_ func(impl.Part) string                                = impl.PartText
	_ func(string) (impl.Part, bool)                        = impl.ReadPart
	_                                                       = struct{ Length, Width, Depth, Density int64 }(impl.Part{})
)

// pathResults holds the results of all functions of chapter 12 that take parts.
func pathResults(list []impl.Part, q pathQuestion) []any {
	results := []any{impl.ValidParts(list)}
	for _, f := range pathFunctions() {
		answers, code := f.call(list, q)
		results = append(results, answers, code)
	}
	for _, x := range list[:min(len(list), impl.MaxParts)] {
		results = append(results, impl.PartText(x))
	}
	return results
}

// checkEqualPaths checks that equal arguments give equal results.
func checkEqualPaths(t *testing.T, list []impl.Part, q pathQuestion) {
	t.Helper()
	first, second := pathResults(list, q), pathResults(slices.Clone(list), q)
	if !reflect.DeepEqual(first, second) {
		t.Errorf("%.200v and %v: %v, then %v", list, q, first, second)
	}
}

// tonnesResults holds the results of the functions of chapter 12 that take a list of numbers.
func tonnesResults(tonnes int64, list []int64) []any {
	parts, code := impl.SplitTonnes(tonnes, list)
	sum, class, failure := impl.JoinTonnes(list)
	return []any{parts, code, sum, class, failure}
}

func checkEqualTonnes(t *testing.T, tonnes int64, list []int64) {
	t.Helper()
	first, second := tonnesResults(tonnes, list), tonnesResults(tonnes, slices.Clone(list))
	if !reflect.DeepEqual(first, second) {
		t.Errorf("%d and %.200v: %v, then %v", tonnes, list, first, second)
	}
}

func TestPartsStayAsTheyWere(t *testing.T) {
	for _, list := range append(goodPaths(), badPaths()...) {
		for _, q := range []pathQuestion{answeredMass(), {}, {tonnes: 100000000, share: 1000, goal: 100000000}, {tonnes: -1, share: -1, goal: -1}} {
			// Spare parts behind the list show a change of its unused capacity.
			whole := slices.Concat(list, answeredPath())
			before := slices.Clone(whole)
			checkEqualPaths(t, whole[:len(list)], q)
			if !slices.Equal(whole, before) {
				t.Errorf("some of %d parts were changed", len(list))
			}
		}
	}
}

func TestTonnesStayAsTheyWere(t *testing.T) {
	for _, list := range append(oddLists(), []int64{1, 2, 3}, []int64{0, 0, 5}, repeated(1000, 64), []int64{100000000, 1}, []int64{50000000, 50000000}) {
		for _, tonnes := range append(oddNumbers(), 10, 100000000, 100000001) {
			part, whole := withSpare(list)
			before := slices.Clone(whole)
			checkEqualTonnes(t, tonnes, part)
			if !slices.Equal(whole, before) {
				t.Errorf("%.80v was changed", list)
			}
		}
	}
}

func TestVolumesReturnForOddNumbers(t *testing.T) {
	numbers := append(append(oddNumbers(), otherNumbers()...), 3, 500, 999, 1000, 1001, 99999999, 100000000, 100000001)
	for _, a := range numbers {
		for _, b := range numbers {
			for _, list := range [][]impl.Part{nil, {}, {{}}, {{}, {}}, answeredPath(), pathOf(greatestPart(), 24)} {
				checkEqualPaths(t, list, pathQuestion{tonnes: a, share: b, goal: a})
				checkEqualPaths(t, list, pathQuestion{tonnes: b, share: 1000, goal: b})
			}
			checkEqualPaths(t, []impl.Part{partOf(a, b, a, b), partOf(b, b, b, b)}, answeredMass())
			checkEqualPaths(t, []impl.Part{partOf(5, a, 5, b), partOf(a, 5, b, 5)}, pathQuestion{})
			checkEqualTonnes(t, a, []int64{b})
			checkEqualTonnes(t, 7, []int64{a, b})
			for _, f := range slabFunctions() {
				for _, q := range []slabQuestion{{a, b, a, b}, {b, b, a, a}, {a, a, b, b}, {a, b, 1, a}} {
					first, code := f.call(q)
					if second, again := f.call(q); first != second || code != again {
						t.Errorf("%s of %v = %d, %d, then %d, %d", f.name, q, first, code, second, again)
					}
				}
			}
		}
	}
	checkEqualPaths(t, make([]impl.Part, 100000), pathQuestion{})
}

func TestReadPartReturnsForOddTexts(t *testing.T) {
	for _, s := range append(oddTexts(), "100,10,100,200", "1,1,0,1", strings.Repeat("1,1,0,1 ", 10000), strings.Repeat("\xff,", 100000)) {
		first, isFirst := impl.ReadPart(s)
		second, isSecond := impl.ReadPart(strings.Clone(s))
		if first != second || isFirst != isSecond {
			t.Errorf("ReadPart(%.20q) = %v, %v, then %v, %v", s, first, isFirst, second, isSecond)
		}
	}
}

func TestGrowthIsNewMemory(t *testing.T) {
	for _, list := range goodPaths() {
		first, _ := impl.GrowthOf(list, 50, 100)
		second, _ := impl.GrowthOf(list, 50, 100)
		wanted := slices.Clone(second)
		overwrite(first, -99)
		if !slices.Equal(second, wanted) {
			t.Errorf("two results of GrowthOf(%v, 50, 100) share memory", list)
		}
	}
}

func TestSplitsAreNewMemory(t *testing.T) {
	// These weights are their own parts of the tonnes, which may not be given out either.
	for _, weights := range [][]int64{{1}, {1, 2, 3}, {0, 7, 0}, repeated(1, 64)} {
		part, whole := withSpare(weights)
		before := slices.Clone(whole)
		tonnes, _, _ := impl.JoinTonnes(weights)
		first, _ := impl.SplitTonnes(tonnes, part)
		second, _ := impl.SplitTonnes(tonnes, part)
		if !slices.Equal(first, weights) {
			t.Errorf("SplitTonnes(%d, %v) = %v", tonnes, weights, first)
		}
		overwrite(first, -99)
		if !slices.Equal(whole, before) {
			t.Errorf("a result shares memory with the weights %v", weights)
		}
		overwrite(whole, -99)
		if !slices.Equal(second, weights) {
			t.Errorf("two results of SplitTonnes(%d, %v) share memory, or one does with the weights", tonnes, weights)
		}
	}
}
