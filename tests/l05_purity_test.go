package tests

import (
	"reflect"
	"slices"
	"testing"

	"loop.example/g01013/impl"
)

// Each function has exactly the type that chapter 5 gives.
var (
	_ func(impl.Layer, int64) (impl.Layer, int64)              = impl.SettleLayer
	_ func([]impl.Layer) ([]impl.Layer, int64)                 = impl.SettleProfile
	_ func([]impl.Layer, int64) ([]impl.Layer, int64, int64)   = impl.WarmTop
	_ func([]impl.Layer, int64) ([]impl.Layer, int64, int64)   = impl.CoolTop
	_ func([]impl.Layer) ([]impl.Layer, int64, int64)          = impl.DrainProfile
	_ func([]impl.Layer, int64) (int64, int64)                 = impl.GradientOf
	_ func([]impl.Layer) ([]impl.Layer, int64)                 = impl.ChangeForms
	_ func([]impl.Layer, int64) ([]impl.Layer, int64, int64)   = impl.StepHour
	_ func([]impl.Layer, []int64) ([]impl.Layer, int64, int64) = impl.RunHours
)

// hourResults holds the profiles that the functions of chapter 5 make from one, and their other results.
func hourResults(list []impl.Layer, joules []int64, n int64) ([][]impl.Layer, []any) {
	settled, first := impl.SettleProfile(list)
	warm, leftWarm, second := impl.WarmTop(list, n)
	cool, leftCool, third := impl.CoolTop(list, n)
	dry, runOff, fourth := impl.DrainProfile(list)
	changed, fifth := impl.ChangeForms(list)
	later, hourly, sixth := impl.StepHour(list, n)
	last, sum, seventh := impl.RunHours(list, joules)
	numbers := []any{first, leftWarm, second, leftCool, third, runOff, fourth, fifth, hourly, sixth, sum, seventh, valuesOf(impl.GradientOf(list, n))}
	return [][]impl.Layer{settled, warm, cool, dry, changed, later, last}, numbers
}

// checkEqualHours checks that equal arguments give equal results.
func checkEqualHours(t *testing.T, list []impl.Layer, joules []int64, n int64) {
	t.Helper()
	first, numbers := hourResults(list, joules, n)
	second, also := hourResults(slices.Clone(list), slices.Clone(joules), n)
	if !slices.EqualFunc(first, second, slices.Equal) || !reflect.DeepEqual(numbers, also) {
		t.Errorf("%v, %v and %d: %v and %v, then %v and %v", list, joules, n, first, numbers, second, also)
	}
}

// heatsInHours holds the heats of no hour, of as many as may be, of one more, and others.
func heatsInHours() [][]int64 {
	return [][]int64{nil, {}, {0}, {400000, -400000}, oddNumbers(), repeated(100000000, impl.MaxList), repeated(0, impl.MaxList+1), repeated(-1, 10000)}
}

func TestHoursLeaveTheirArguments(t *testing.T) {
	for _, list := range append(oddProfiles(), mixedProfiles(20)...) {
		for _, joules := range heatsInHours() {
			// Spare elements behind the lists show a change of their unused capacity.
			whole, wholeJoules := slices.Concat(list, mixedProfile()), slices.Concat(joules, []int64{41, 42, 43})
			before, joulesBefore := slices.Clone(whole), slices.Clone(wholeJoules)
			checkEqualHours(t, whole[:len(list)], wholeJoules[:len(joules)], 123456)
			if !slices.Equal(whole, before) || !slices.Equal(wholeJoules, joulesBefore) {
				t.Errorf("a profile of %d layers or %d joules were changed", len(list), len(joules))
			}
		}
	}
}

func TestHoursReturnForOddNumbers(t *testing.T) {
	for _, list := range [][]impl.Layer{nil, {}, mixedProfile(), layersOf(greatestLayer(), impl.MaxLayers), layersOf(leastLayer(), impl.MaxLayers), layersOf(impl.Layer{}, 3)} {
		for _, n := range append(oddNumbers(), otherNumbers()...) {
			checkEqualHours(t, list, []int64{n}, n)
			checkEqualHours(t, list, append(repeated(0, impl.MaxList), n), n)
		}
	}
}

func TestHoursOfLayersReturnForOddNumbers(t *testing.T) {
	for _, field := range layerFields() {
		for _, n := range append(oddNumbers(), field.least, field.greatest) {
			x := withField(goodLayer(), field, n)
			checkEqualHours(t, []impl.Layer{x, x}, []int64{1000000, -1000000}, 1000000)
			for _, load := range append(oddNumbers(), 32000000) {
				first, code := impl.SettleLayer(x, load)
				if second, also := impl.SettleLayer(x, load); first != second || code != also {
					t.Errorf("SettleLayer(%v, %d) = %v, %d, then %v, %d", x, load, first, code, second, also)
				}
			}
		}
	}
}

func TestHoursReturnNewMemory(t *testing.T) {
	wrong := impl.Layer{Form: -99}
	for _, list := range append(goodProfiles(), mixedProfiles(20)...) {
		for _, joules := range [][]int64{nil, {0}, {400000, -400000}} {
			for _, heat := range []int64{0, 400000, 100000000} {
				whole := slices.Concat(list, mixedProfile())
				before := slices.Clone(whole)
				lists, _ := hourResults(whole[:len(list)], joules, heat)
				again, _ := hourResults(whole[:len(list)], joules, heat)
				wanted, _ := hourResults(slices.Clone(list), slices.Clone(joules), heat)
				for _, other := range lists {
					overwrite(other, wrong)
				}
				if !slices.Equal(whole, before) {
					t.Errorf("a result shares memory with a profile of %d layers", len(list))
				}
				overwrite(whole, wrong)
				if !slices.EqualFunc(again, wanted, slices.Equal) {
					t.Errorf("two results of a profile of %d layers share memory, or one does with the profile", len(list))
				}
			}
		}
	}
}
