package tests

import (
	"reflect"
	"slices"
	"strings"
	"testing"

	"loop.example/g01013/impl"
)

// Each function has exactly the type that chapter 6 gives.
var (
	_ func(impl.Field) bool                                    = impl.ValidField
	_ func(impl.Field, impl.Field) bool                        = impl.SameField
	_ func(impl.Field) (int64, int64)                          = impl.FieldMass
	_ func(int64) (int64, int64)                               = impl.ShareOf
	_ func(impl.Field, int64, int64) (impl.Field, int64)       = impl.DriftStep
	_ func(impl.Field, []int64, int64) (impl.Field, int64)     = impl.DriftRun
	_ func(impl.Field, []int64, int64) ([]int64, int64)        = impl.DriftGain
	_ func(impl.Field, []int64, int64, int64) ([]int64, int64) = impl.LoadedCells
	_ func(impl.Field, int64, int64) (int64, int64, int64)     = impl.WorstWind
	_ func(impl.Field, int64, int64) (int64, int64)            = impl.SettledField
	_ func(impl.Field, int64) (impl.Field, int64)              = impl.SnowOver
	_ func(impl.Field) string                                  = impl.FieldText
	_ func(string) (impl.Field, bool)                          = impl.ReadField
)

// driftedLists holds the lists that the functions of chapter 6 make from a field, and their codes.
func driftedLists(f impl.Field, directions []int64, share, n int64) ([][]int64, []int64) {
	step, first := impl.DriftStep(f, n, share)
	run, second := impl.DriftRun(f, directions, share)
	gains, third := impl.DriftGain(f, directions, share)
	loaded, fourth := impl.LoadedCells(f, directions, share, n)
	covered, fifth := impl.SnowOver(f, n)
	sides := []int64{step.Rows, step.Columns, run.Rows, run.Columns, covered.Rows, covered.Columns}
	return [][]int64{step.Masses, run.Masses, gains, loaded, covered.Masses}, append(sides, first, second, third, fourth, fifth)
}

// fieldResults holds the results of all functions of chapter 6 that take a field or a number.
func fieldResults(f impl.Field, directions []int64, share, n int64) []any {
	lists, codes := driftedLists(f, directions, share, n)
	return []any{
		impl.ValidField(f), impl.SameField(f, f), impl.SameField(f, fieldOf(2, 1, 1000, 0)), valuesOf(impl.FieldMass(f)), valuesOf(impl.ShareOf(n)),
		valuesOf(impl.WorstWind(f, share, n)), valuesOf(impl.SettledField(f, share, n)), impl.FieldText(f), lists, codes,
	}
}

// copyOf returns a field with masses of its own.
func copyOf(f impl.Field) impl.Field { return fieldOf(f.Rows, f.Columns, slices.Clone(f.Masses)...) }

func checkEqualFields(t *testing.T, f impl.Field, directions []int64, share, n int64) {
	t.Helper()
	first, second := fieldResults(f, directions, share, n), fieldResults(copyOf(f), slices.Clone(directions), share, n)
	if !reflect.DeepEqual(first, second) {
		t.Errorf("%v, %v, %d and %d: %v, then %v", f, directions, share, n, first, second)
	}
}

func TestFieldsStayAsTheyWere(t *testing.T) {
	for _, f := range append(goodFields(), badFields()...) {
		for _, directions := range [][]int64{nil, {}, {0}, {3, 2}, {0, 4}, gustsOf(impl.MaxGusts), gustsOf(impl.MaxGusts + 1)} {
			for _, n := range []int64{0, 2, 1000} {
				// Spare elements behind the lists show a change of their unused capacity.
				masses, gusts := slices.Concat(f.Masses, []int64{41, 42, 43}), slices.Concat(directions, []int64{1, 2, 3})
				before, gustsBefore := slices.Clone(masses), slices.Clone(gusts)
				part := impl.Field{Rows: f.Rows, Columns: f.Columns, Masses: masses[:len(f.Masses)]}
				checkEqualFields(t, part, gusts[:len(directions)], 333, n)
				if !slices.Equal(masses, before) || !slices.Equal(gusts, gustsBefore) {
					t.Errorf("%v or %v was changed", f, directions)
				}
			}
		}
	}
}

func TestFieldsReturnForOddNumbers(t *testing.T) {
	numbers := append(append(oddNumbers(), otherNumbers()...), 3, 4, 500, 1000, 1001)
	for _, f := range []impl.Field{{}, fieldOf(1, 1, 5), fieldOf(2, 1, 1000, 0), evenField(8, 8, impl.MaxDrift), fieldOf(2, 2, 1, 2, 3)} {
		for _, a := range numbers {
			for _, b := range numbers {
				checkEqualFields(t, f, []int64{a}, b, a)
				checkEqualFields(t, f, []int64{0, b}, a, b)
			}
		}
		for _, directions := range append(oddLists(), repeated(2, 100000)) {
			checkEqualFields(t, f, directions, 1000, 1)
		}
	}
}

func TestOddFieldsReturn(t *testing.T) {
	for _, a := range oddNumbers() {
		for _, b := range oddNumbers() {
			for _, masses := range oddLists() {
				checkEqualFields(t, fieldOf(a, b, masses...), []int64{0, 3}, 500, 1)
			}
			checkEqualFields(t, fieldOf(1, 2, a, b), []int64{0, 3}, 500, 1)
		}
	}
}

func TestReadFieldReturnsForOddTexts(t *testing.T) {
	for _, s := range append(oddTexts(), "1x1 0", "2x1 1000,0", strings.Repeat("1x1 0 ", 10000), strings.Repeat("\xffx", 100000)) {
		first, isFirst := impl.ReadField(s)
		second, isSecond := impl.ReadField(strings.Clone(s))
		if !impl.SameField(first, second) || isFirst != isSecond {
			t.Errorf("ReadField(%.20q) = %v, %v, then %v, %v", s, first, isFirst, second, isSecond)
		}
	}
}

func TestDriftReturnsNewMemory(t *testing.T) {
	for _, f := range goodFields() {
		for _, directions := range [][]int64{nil, {0}, {1, 3, 2}, gustsOf(impl.MaxGusts)} {
			for _, share := range []int64{0, 400} {
				masses, gusts := slices.Concat(f.Masses, []int64{41, 42, 43}), slices.Concat(directions, []int64{1, 2, 3})
				before, gustsBefore := slices.Clone(masses), slices.Clone(gusts)
				part := impl.Field{Rows: f.Rows, Columns: f.Columns, Masses: masses[:len(f.Masses)]}
				lists, _ := driftedLists(part, gusts[:len(directions)], share, 0)
				again, _ := driftedLists(part, gusts[:len(directions)], share, 0)
				wanted, _ := driftedLists(copyOf(f), slices.Clone(directions), share, 0)
				for _, list := range lists {
					overwrite(list, -99)
				}
				if !slices.Equal(masses, before) || !slices.Equal(gusts, gustsBefore) {
					t.Errorf("a result shares memory with %v or %v", f, directions)
				}
				overwrite(masses, -99)
				overwrite(gusts, -99)
				if !slices.EqualFunc(again, wanted, slices.Equal) {
					t.Errorf("two results of %v share memory, or one does with an argument", f)
				}
			}
		}
	}
}

func TestReadFieldsAreNewMemory(t *testing.T) {
	for _, f := range goodFields() {
		text := fieldAsTold(f)
		first, _ := impl.ReadField(text)
		second, _ := impl.ReadField(text)
		overwrite(first.Masses, -99)
		if !impl.SameField(second, f) {
			t.Errorf("two results of ReadField(%q) share memory", text)
		}
	}
}
