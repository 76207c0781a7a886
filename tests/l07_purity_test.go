package tests

import (
	"reflect"
	"slices"
	"testing"

	"loop.example/g01013/impl"
)

// Each function has exactly the type that chapter 7 gives.
var (
	_ func(impl.Layer, int64) (int64, int64, int64)                        = impl.StrengthBounds
	_ func([]impl.Layer, int64, int64, int64) (int64, int64)               = impl.StressAt
	_ func([]impl.Layer, int64, int64, int64, int64) (int64, int64, int64) = impl.IndexBounds
	_ func([]impl.Layer, int64, int64, int64) (int64, int64, int64)        = impl.WeakestLayer
	_ func([]impl.Layer, int64, int64, int64, int64) bool                  = impl.IsStable
	_ func([]impl.Layer, int64, int64, int64, int64) (int64, int64)        = impl.MoreLoad
	_ func([]impl.Layer, int64, int64, int64) (int64, int64)               = impl.SteepestFor
	_ func([]impl.Layer, int64, int64, int64) (int64, int64)               = impl.SlabOf
)

// packResults holds the results of all functions of chapter 7 that take a profile.
func packResults(list []impl.Layer, q packQuestion) []any {
	results := []any{impl.IsStable(list, q.rise, q.run, q.doubt, q.limit)}
	for _, f := range packFunctions() {
		numbers, code := f.call(list, q)
		results = append(results, numbers, code)
	}
	return results
}

// checkEqualPacks checks that equal arguments give equal results.
func checkEqualPacks(t *testing.T, list []impl.Layer, q packQuestion) {
	t.Helper()
	first, second := packResults(list, q), packResults(slices.Clone(list), q)
	if !reflect.DeepEqual(first, second) {
		t.Errorf("%v and %v: %v, then %v", list, q, first, second)
	}
}

func TestPacksStayAsTheyWere(t *testing.T) {
	for _, list := range append(oddProfiles(), mixedProfiles(20)...) {
		for _, q := range []packQuestion{goodQuestion(), {}, {k: -1, rise: 1000, run: 1, doubt: 1000, limit: 1000000}, {k: int64(len(list)) - 1, rise: 0, run: 1000}} {
			// Spare layers behind the list show a change of its unused capacity.
			whole := slices.Concat(list, mixedProfile())
			before := slices.Clone(whole)
			checkEqualPacks(t, whole[:len(list)], q)
			if !slices.Equal(whole, before) {
				t.Errorf("a profile of %d layers was changed", len(list))
			}
		}
	}
}

func TestPacksReturnForOddNumbers(t *testing.T) {
	numbers := append(append(oddNumbers(), otherNumbers()...), 500, 1000, 1001)
	for _, list := range [][]impl.Layer{nil, {}, mixedProfile(), layersOf(greatestLayer(), impl.MaxLayers), layersOf(leastLayer(), impl.MaxLayers), layersOf(impl.Layer{}, 3)} {
		for _, a := range numbers {
			for _, b := range numbers {
				checkEqualPacks(t, list, packQuestion{k: a, rise: b, run: a, doubt: b, limit: a})
				checkEqualPacks(t, list, packQuestion{k: 0, rise: a, run: b, doubt: 100, limit: 1000})
				checkEqualPacks(t, list, packQuestion{k: 1, rise: 50, run: 100, doubt: a, limit: b})
			}
		}
	}
}

func TestOddLayersHaveBounds(t *testing.T) {
	for _, field := range layerFields() {
		for _, n := range append(oddNumbers(), field.least, field.greatest) {
			x := withField(goodLayer(), field, n)
			checkEqualPacks(t, []impl.Layer{x, x}, goodQuestion())
			for _, doubt := range append(oddNumbers(), 500, 1000) {
				first, second := valuesOf(impl.StrengthBounds(x, doubt)), valuesOf(impl.StrengthBounds(x, doubt))
				if !reflect.DeepEqual(first, second) {
					t.Errorf("StrengthBounds(%v, %d) = %v, then %v", x, doubt, first, second)
				}
			}
		}
	}
}
