package tests

import (
	"reflect"
	"slices"
	"strings"
	"testing"

	"loop.example/g01013/impl"
)

// Each function has exactly the type that chapter 3 gives.
var (
	_ func(impl.Layer) bool                                  = impl.ValidLayer
	_ func([]impl.Layer) bool                                = impl.ValidProfile
	_ func([]impl.Layer, []impl.Layer) bool                  = impl.SameProfile
	_ func(impl.Layer) (int64, int64)                        = impl.ThicknessOf
	_ func([]impl.Layer) (int64, int64)                      = impl.HeightOf
	_ func([]impl.Layer) (int64, int64, int64)               = impl.MassOf
	_ func([]impl.Layer, int64) (int64, int64)               = impl.LayerAt
	_ func([]impl.Layer, int64) (int64, int64)               = impl.LoadAbove
	_ func([]impl.Layer, impl.Layer) ([]impl.Layer, int64)   = impl.AddLayer
	_ func([]impl.Layer, int64) ([]impl.Layer, int64)        = impl.JoinLayers
	_ func([]impl.Layer, int64, int64) ([]impl.Layer, int64) = impl.SplitLayer
	_ func([]impl.Layer) (int64, int64)                      = impl.ColdOf
	_ func(int64) string                                     = impl.FormName
	_ func([]impl.Layer) string                              = impl.ProfileText
	_ func(string) ([]impl.Layer, bool)                      = impl.ReadProfile
)

// changedProfiles holds the profiles that the functions of chapter 3 make from one.
func changedProfiles(list []impl.Layer, k, ice int64) ([][]impl.Layer, []int64) {
	added, first := impl.AddLayer(list, goodLayer())
	joined, second := impl.JoinLayers(list, k)
	split, third := impl.SplitLayer(list, k, ice)
	return [][]impl.Layer{added, joined, split}, []int64{first, second, third}
}

// profileResults holds the results of all functions of a profile.
func profileResults(list []impl.Layer, k, ice int64) []any {
	lists, codes := changedProfiles(list, k, ice)
	return []any{
		impl.ValidProfile(list), impl.SameProfile(list, list), valuesOf(impl.HeightOf(list)), valuesOf(impl.MassOf(list)),
		valuesOf(impl.LayerAt(list, ice)), valuesOf(impl.LoadAbove(list, k)), valuesOf(impl.ColdOf(list)), impl.ProfileText(list), lists, codes,
	}
}

// oddProfiles holds valid and other profiles.
func oddProfiles() [][]impl.Layer {
	return slices.Concat(goodProfiles(), badProfiles(), [][]impl.Layer{pairOf(30, 30, 30, 30), layersOf(impl.Layer{}, 100)})
}

func TestProfilesStayAsTheyWere(t *testing.T) {
	for _, list := range oddProfiles() {
		for _, k := range []int64{-1, 0, 1, int64(len(list)) - 2, int64(len(list)) - 1, int64(len(list))} {
			// Spare layers behind the list show a change of its unused capacity.
			whole := slices.Concat(list, mixedProfile()[:4])
			part, before := whole[:len(list)], slices.Clone(whole)
			first, second := profileResults(part, k, 10), profileResults(slices.Clone(list), k, 10)
			if !reflect.DeepEqual(first, second) {
				t.Errorf("results %v, then %v", first, second)
			}
			if !slices.Equal(whole, before) {
				t.Errorf("a profile of %d layers was changed", len(list))
			}
		}
	}
}

func TestProfilesReturnForOddNumbers(t *testing.T) {
	for _, list := range [][]impl.Layer{nil, mixedProfile(), layersOf(greatestLayer(), impl.MaxLayers), layersOf(impl.Layer{}, 3)} {
		for _, k := range oddNumbers() {
			for _, ice := range oddNumbers() {
				if first, second := profileResults(list, k, ice), profileResults(list, k, ice); !reflect.DeepEqual(first, second) {
					t.Errorf("%d and %d: %v, then %v", k, ice, first, second)
				}
			}
		}
	}
}

func TestLayersReturnForOddNumbers(t *testing.T) {
	for _, n := range oddNumbers() {
		for _, field := range layerFields() {
			x := withField(goodLayer(), field, n)
			list := []impl.Layer{x}
			first := []any{impl.ValidLayer(x), valuesOf(impl.ThicknessOf(x)), valuesOf(impl.AddLayer(list, x)), impl.FormName(n)}
			second := []any{impl.ValidLayer(x), valuesOf(impl.ThicknessOf(x)), valuesOf(impl.AddLayer(list, x)), impl.FormName(n)}
			if !reflect.DeepEqual(first, second) {
				t.Errorf("%v: %v, then %v", x, first, second)
			}
		}
	}
}

func TestReadProfileReturnsForOddTexts(t *testing.T) {
	for _, s := range append(oddTexts(), "-", "1,1,0,30,0,1,0", strings.Repeat("1,1,0,30,0,1,0;", 10000), strings.Repeat("\xff;", 100000)) {
		first, isFirst := impl.ReadProfile(s)
		second, isSecond := impl.ReadProfile(strings.Clone(s))
		if !reflect.DeepEqual(first, second) || isFirst != isSecond {
			t.Errorf("ReadProfile(%.20q) = %v, %v, then %v, %v", s, first, isFirst, second, isSecond)
		}
	}
}

// overwrite changes all elements of a list, those of its unused capacity included.
func overwrite[T any](list []T, with T) {
	whole := list[:cap(list)]
	for i := range whole {
		whole[i] = with
	}
}

func TestNewProfilesAreNewMemory(t *testing.T) {
	for _, list := range [][]impl.Layer{{}, {goodLayer()}, pairOf(30, 30, 30, 30), layersOf(goodLayer(), impl.MaxLayers-1), layersOf(goodLayer(), impl.MaxLayers)} {
		for k := range int64(max(1, len(list))) {
			whole := slices.Concat(list, mixedProfile())
			before := slices.Clone(whole)
			lists, _ := changedProfiles(whole[:len(list)], k, 10)
			again, _ := changedProfiles(whole[:len(list)], k, 10)
			wanted, _ := changedProfiles(slices.Clone(list), k, 10)
			for _, other := range lists {
				overwrite(other, impl.Layer{Form: -99})
			}
			if !slices.Equal(whole, before) {
				t.Errorf("a result shares memory with a profile of %d layers", len(list))
			}
			overwrite(whole, impl.Layer{Form: -99})
			if !reflect.DeepEqual(again, wanted) {
				t.Errorf("two results of a profile of %d layers share memory, or one does with the profile", len(list))
			}
		}
	}
}

func TestReadProfilesAreNewMemory(t *testing.T) {
	for _, list := range goodProfiles() {
		text := profileAsTold(list)
		first, _ := impl.ReadProfile(text)
		second, _ := impl.ReadProfile(text)
		overwrite(first, impl.Layer{Form: -99})
		if !slices.Equal(second, list) {
			t.Errorf("two results of ReadProfile(%q) share memory", text)
		}
	}
}
