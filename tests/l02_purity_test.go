package tests

import (
	"reflect"
	"strings"
	"testing"

	"loop.example/g01013/impl"
)

// Each function has exactly the type that chapter 2 gives.
var (
	_ func(int64) (int64, int64, int64, int64) = impl.DateOf
	_ func(int64, int64, int64) (int64, int64) = impl.DayNumber
	_ func(int64) (int64, int64)               = impl.WeekdayOf
	_ func(int64) string                       = impl.DateText
	_ func(string) (int64, bool)               = impl.ReadDate
	_ func(int64) string                       = impl.ClockText
	_ func(string) (int64, bool)               = impl.ReadClock
	_ func(int64, int64) string                = impl.FixedText
	_ func(string, int64) (int64, bool)        = impl.ReadFixed
	_ func(int64, int64) (int64, int64)        = impl.HourNumber
	_ func(int64, int64) (int64, int64)        = impl.SnowMass
	_ func(int64, int64) (int64, int64)        = impl.SnowHeight
	_ func(int64) (int64, int64)               = impl.BeaufortOf
	_ func(int64) string                       = impl.WindName
)

// valuesOf returns all results of a call as a list.
func valuesOf(results ...any) []any { return results }

// unitNumberResults holds the results of all functions of chapter 2 that take numbers.
func unitNumberResults(a, b int64) []any {
	return []any{
		valuesOf(impl.DateOf(a)), valuesOf(impl.DayNumber(a, b, b)), valuesOf(impl.DayNumber(2024, a, b)), valuesOf(impl.DayNumber(a, 8, 22)),
		valuesOf(impl.WeekdayOf(a)), impl.DateText(a), impl.ClockText(a), impl.FixedText(a, b), impl.FixedText(a, 3),
		valuesOf(impl.HourNumber(a, b)), valuesOf(impl.SnowMass(a, b)), valuesOf(impl.SnowHeight(a, b)), valuesOf(impl.BeaufortOf(a)), impl.WindName(a),
	}
}

// unitTextResults holds the results of all functions of chapter 2 that take texts.
func unitTextResults(s string) []any {
	results := []any{valuesOf(impl.ReadDate(s)), valuesOf(impl.ReadClock(s))}
	for _, places := range append(oddNumbers(), 3, 6, 7) {
		results = append(results, valuesOf(impl.ReadFixed(s, places)))
	}
	return results
}

func TestUnitsReturnEqualResultsForNumbers(t *testing.T) {
	numbers := append(oddNumbers(), 23, 59, 1439, impl.MaxDate, impl.MaxUnit, -impl.MaxUnit)
	for _, a := range numbers {
		for _, b := range numbers {
			if first, second := unitNumberResults(a, b), unitNumberResults(a, b); !reflect.DeepEqual(first, second) {
				t.Errorf("%d and %d: %v, then %v", a, b, first, second)
			}
		}
	}
}

func TestUnitsReturnEqualResultsForTexts(t *testing.T) {
	for _, s := range append(oddTexts(), "2024-08-22", "10:05", "12.345", "-0.5", strings.Repeat("0.", 100000), strings.Repeat("00:", 100000)) {
		if first, second := unitTextResults(s), unitTextResults(strings.Clone(s)); !reflect.DeepEqual(first, second) {
			t.Errorf("%.20q: %v, then %v", s, first, second)
		}
	}
}
