package tests

import (
	"reflect"
	"slices"
	"strings"
	"testing"

	"loop.example/g01013/impl"
)

// Each function has exactly the type that chapter 4 gives.
var (
	_ func([]impl.Observed) bool                                    = impl.ValidObserved
	_ func([]impl.Observed, impl.Observed) ([]impl.Observed, int64) = impl.AddObserved
	_ func([]impl.Observed, int64) (int64, int64)                   = impl.SnowAt
	_ func([]impl.Observed, int64, int64) (int64, int64)            = impl.NewSnow
	_ func([]impl.Observed, int64, int64) ([]int64, int64)          = impl.MissingHours
	_ func([]impl.Observed, int64, int64) ([]int64, int64)          = impl.OddObserved
	_ func([]impl.Observed, int64, int64) ([]impl.Observed, int64)  = impl.WithoutOdd
	_ func([]impl.Observed) (int64, int64)                          = impl.DegreesMean
	_ func([]impl.Observed, int64) (int64, int64)                   = impl.WindHours
	_ func([]impl.Observed, []impl.Observed) (int64, int64, int64)  = impl.CompareStations
	_ func(impl.Observed) string                                    = impl.ObservedText
	_ func(string) (impl.Observed, bool)                            = impl.ReadObserved
)

// changedStations holds the observations and the numbers that the functions of chapter 4 make from some.
func changedStations(list []impl.Observed, x impl.Observed, a, b int64) ([][]impl.Observed, [][]int64) {
	added, first := impl.AddObserved(list, x)
	left, second := impl.WithoutOdd(list, a, b)
	missing, third := impl.MissingHours(list, a, b)
	odd, fourth := impl.OddObserved(list, a, b)
	return [][]impl.Observed{added, left}, [][]int64{missing, odd, {first, second, third, fourth}}
}

// stationResults holds the results of all functions of observations.
func stationResults(list []impl.Observed, x impl.Observed, a, b int64) []any {
	stations, numbers := changedStations(list, x, a, b)
	return []any{
		impl.ValidObserved(list), valuesOf(impl.SnowAt(list, a)), valuesOf(impl.NewSnow(list, a, b)), valuesOf(impl.DegreesMean(list)), valuesOf(impl.WindHours(list, a)),
		valuesOf(impl.CompareStations(list, mixedStation())), valuesOf(impl.CompareStations(mixedStation(), list)), valuesOf(impl.CompareStations(list, list)), stations, numbers,
	}
}

// oddStations holds valid and other observations.
func oddStations() [][]impl.Observed {
	return slices.Concat(goodStations(), badStations(), [][]impl.Observed{make([]impl.Observed, 100)})
}

func TestStationsStayAsTheyWere(t *testing.T) {
	for _, list := range oddStations() {
		for _, x := range []impl.Observed{goodObserved(), leastObserved(), greatestObserved(), {Hour: 5}, {Hour: -1}} {
			// Spare observations behind the list show a change of its unused capacity.
			whole := slices.Concat(list, mixedStation())
			part, before := whole[:len(list)], slices.Clone(whole)
			first, second := stationResults(part, x, 3, 40), stationResults(slices.Clone(list), x, 3, 40)
			if !reflect.DeepEqual(first, second) {
				t.Errorf("results %v, then %v", first, second)
			}
			if !slices.Equal(whole, before) {
				t.Errorf("a station of %d observations was changed", len(list))
			}
		}
	}
}

func TestStationsReturnForOddNumbers(t *testing.T) {
	for _, list := range [][]impl.Observed{nil, {}, {goodObserved()}, mixedStation(), stationOf(impl.MaxObserved, 5, 2), stationOf(impl.MaxObserved, 100000, -1), make([]impl.Observed, 3)} {
		for _, a := range append(oddNumbers(), 10000, 10001, 100000, 100001) {
			for _, b := range append(oddNumbers(), 10000, 10001, 100000, 100001) {
				x := impl.Observed{Hour: a, Snow: b, Degrees: a, Wind: b}
				if first, second := stationResults(list, x, a, b), stationResults(list, x, a, b); !reflect.DeepEqual(first, second) {
					t.Errorf("%d and %d: %v, then %v", a, b, first, second)
				}
			}
		}
	}
}

func TestObservationsReturnForOddNumbers(t *testing.T) {
	for _, n := range oddNumbers() {
		for _, field := range observedFields() {
			x := withField(goodObserved(), field, n)
			first, second := stationResults([]impl.Observed{x}, x, 0, 9), stationResults([]impl.Observed{x}, x, 0, 9)
			if text := impl.ObservedText(x); !reflect.DeepEqual(first, second) || text != impl.ObservedText(x) {
				t.Errorf("%v and %q: %v, then %v", x, text, first, second)
			}
		}
	}
}

func TestReadObservedReturnsForOddTexts(t *testing.T) {
	for _, s := range append(oddTexts(), "0,0,0,0", "2,30,-500,2000", strings.Repeat("0,0,0,0,", 10000), strings.Repeat("\xff,", 100000)) {
		first, isFirst := impl.ReadObserved(s)
		second, isSecond := impl.ReadObserved(strings.Clone(s))
		if first != second || isFirst != isSecond {
			t.Errorf("ReadObserved(%.20q) = %v, %v, then %v, %v", s, first, isFirst, second, isSecond)
		}
	}
}

func TestNewStationsAreNewMemory(t *testing.T) {
	wrong := impl.Observed{Hour: -99}
	for _, list := range goodStations() {
		for _, x := range []impl.Observed{{Hour: 2}, {Hour: 13}, greatestObserved()} {
			for _, change := range []int64{0, 40, 10000} {
				whole := slices.Concat(list, mixedStation())
				before := slices.Clone(whole)
				stations, numbers := changedStations(whole[:len(list)], x, change, change)
				again, numbersAgain := changedStations(whole[:len(list)], x, change, change)
				wanted, numbersWanted := changedStations(slices.Clone(list), x, change, change)
				for _, other := range stations {
					overwrite(other, wrong)
				}
				for _, other := range numbers {
					overwrite(other, -99)
				}
				if !slices.Equal(whole, before) {
					t.Errorf("a result shares memory with a station of %d observations", len(list))
				}
				overwrite(whole, wrong)
				if !reflect.DeepEqual(again, wanted) || !reflect.DeepEqual(numbersAgain, numbersWanted) {
					t.Errorf("two results of a station of %d observations share memory, or one does with it", len(list))
				}
			}
		}
	}
}
