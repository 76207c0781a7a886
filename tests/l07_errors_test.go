package tests

import (
	"slices"
	"testing"

	"loop.example/g01013/impl"
)

// packQuestion holds all numbers that functions of chapter 7 take beside a profile.
type packQuestion struct{ k, rise, run, doubt, limit int64 }

// packFunction answers a question about a profile; takes holds the names of the numbers that count for it.
type packFunction struct {
	name  string
	takes []string
	call  func([]impl.Layer, packQuestion) ([]int64, int64)
}

// packFields holds the numbers of a question about a profile of so many layers.
func packFields(count int) []numberField[packQuestion] {
	return []numberField[packQuestion]{
		{"k", func(q *packQuestion) *int64 { return &q.k }, 0, int64(count) - 1},
		{"rise", func(q *packQuestion) *int64 { return &q.rise }, 0, 1000},
		{"run", func(q *packQuestion) *int64 { return &q.run }, 1, 1000},
		{"doubt", func(q *packQuestion) *int64 { return &q.doubt }, 0, 1000},
		{"limit", func(q *packQuestion) *int64 { return &q.limit }, 0, 1000000},
	}
}

func packFunctions() []packFunction {
	return []packFunction{
		{"StressAt", []string{"k", "rise", "run"}, func(list []impl.Layer, q packQuestion) ([]int64, int64) {
			stress, code := impl.StressAt(list, q.k, q.rise, q.run)
			return []int64{stress}, code
		}},
		{"IndexBounds", []string{"k", "rise", "run", "doubt"}, func(list []impl.Layer, q packQuestion) ([]int64, int64) {
			least, greatest, code := impl.IndexBounds(list, q.k, q.rise, q.run, q.doubt)
			return []int64{least, greatest}, code
		}},
		{"WeakestLayer", []string{"rise", "run", "doubt"}, func(list []impl.Layer, q packQuestion) ([]int64, int64) {
			k, least, code := impl.WeakestLayer(list, q.rise, q.run, q.doubt)
			return []int64{k, least}, code
		}},
		{"MoreLoad", []string{"rise", "run", "doubt", "limit"}, func(list []impl.Layer, q packQuestion) ([]int64, int64) {
			load, code := impl.MoreLoad(list, q.rise, q.run, q.doubt, q.limit)
			return []int64{load}, code
		}},
		{"SteepestFor", []string{"run", "doubt", "limit"}, func(list []impl.Layer, q packQuestion) ([]int64, int64) {
			rise, code := impl.SteepestFor(list, q.run, q.doubt, q.limit)
			return []int64{rise}, code
		}},
		{"SlabOf", []string{"rise", "run", "doubt"}, func(list []impl.Layer, q packQuestion) ([]int64, int64) {
			slab, code := impl.SlabOf(list, q.rise, q.run, q.doubt)
			return []int64{slab}, code
		}},
	}
}

// goodQuestion is one that each function answers for mixedProfile.
func goodQuestion() packQuestion {
	return packQuestion{k: 1, rise: 50, run: 100, doubt: 100, limit: 300}
}

// wrongNumbers holds numbers that are no values of a field.
func wrongNumbers(field numberField[packQuestion]) []int64 {
	return append(otherNumbers(), field.least-1, field.greatest+1)
}

// checkRefused checks that a question has no answer but a code.
func checkRefused(t *testing.T, f packFunction, list []impl.Layer, q packQuestion, wanted int64) {
	t.Helper()
	numbers, code := f.call(list, q)
	if code != wanted || slices.ContainsFunc(numbers, func(n int64) bool { return n != 0 }) {
		t.Errorf("%s of %d layers and %v = %v, %d, want %d", f.name, len(list), q, numbers, code, wanted)
	}
}

func TestPackFunctionsAtTheirLimits(t *testing.T) {
	list := mixedProfile()
	for _, f := range packFunctions() {
		for _, field := range packFields(len(list)) {
			for _, n := range []int64{field.least, field.least + 1, field.greatest - 1, field.greatest} {
				q := withField(goodQuestion(), field, n)
				numbers, code := f.call(list, q)
				// MoreLoad has other errors where numbers are as stated, and the profile is too weak or too strong for them.
				if code != impl.OK && (f.name != "MoreLoad" || code != impl.ErrState && code != impl.ErrNotFound) {
					t.Errorf("%s of %v = %v, %d", f.name, q, numbers, code)
				}
			}
		}
	}
}

func TestPackFunctionsOutOfRange(t *testing.T) {
	for _, list := range [][]impl.Layer{nil, {goodLayer()}, mixedProfile(), layersOf(greatestLayer(), impl.MaxLayers)} {
		for _, f := range packFunctions() {
			for _, field := range packFields(len(list)) {
				for _, n := range wrongNumbers(field) {
					q := withField(goodQuestion(), field, n)
					if slices.Contains(f.takes, field.name) {
						checkRefused(t, f, list, q, impl.ErrRange)
					}
				}
			}
		}
	}
}

// TestPackFunctionsLeaveOutOtherNumbers changes the numbers that a function does not take.
func TestPackFunctionsLeaveOutOtherNumbers(t *testing.T) {
	list := mixedProfile()
	for _, f := range packFunctions() {
		want, wanted := f.call(list, goodQuestion())
		if wanted != impl.OK {
			t.Errorf("%s of %v returns %d", f.name, goodQuestion(), wanted)
		}
		for _, field := range packFields(len(list)) {
			got, code := f.call(list, withField(goodQuestion(), field, -1))
			if !slices.Contains(f.takes, field.name) && (!slices.Equal(got, want) || code != impl.OK) {
				t.Errorf("%s with another %s = %v, %d, want %v", f.name, field.name, got, code, want)
			}
		}
	}
}

// TestPackFunctionsOfBadProfiles has good and wrong numbers: what is not valid comes first.
func TestPackFunctionsOfBadProfiles(t *testing.T) {
	for _, list := range badProfiles() {
		for _, f := range packFunctions() {
			checkRefused(t, f, list, packQuestion{k: 0, rise: 50, run: 100, doubt: 100, limit: 1000}, impl.ErrInvalid)
			checkRefused(t, f, list, packQuestion{k: int64(len(list)), rise: -1, run: 0, doubt: -1, limit: -1}, impl.ErrInvalid)
			for _, field := range packFields(len(list)) {
				checkRefused(t, f, list, withField(goodQuestion(), field, field.least-1), impl.ErrInvalid)
				checkRefused(t, f, list, withField(goodQuestion(), field, field.greatest+1), impl.ErrInvalid)
			}
		}
	}
}

// TestRangeComesBeforeOtherErrors asks questions with wrong numbers that have another error as well.
func TestRangeComesBeforeOtherErrors(t *testing.T) {
	unstable := underLoad(layerWith(impl.FoHoar, 30), 15000000)
	for _, slope := range otherSlopes() {
		for _, list := range [][]impl.Layer{nil, unstable} {
			k, least, code := impl.WeakestLayer(list, slope[0], slope[1], 0)
			checkBounds(t, "WeakestLayer", k, least, code, 0, 0, impl.ErrRange)
			slab, code := impl.SlabOf(list, slope[0], slope[1], 0)
			checkCoded(t, "SlabOf", slab, code, 0, impl.ErrRange)
			load, code := impl.MoreLoad(list, slope[0], slope[1], 0, 1000)
			checkCoded(t, "MoreLoad", load, code, 0, impl.ErrRange)
		}
		got, code := impl.StressAt(unstable, 0, slope[0], slope[1])
		checkCoded(t, "StressAt", got, code, 0, impl.ErrRange)
		least, greatest, code := impl.IndexBounds(unstable, 0, slope[0], slope[1], 0)
		checkBounds(t, "IndexBounds", least, greatest, code, 0, 0, impl.ErrRange)
	}
	for _, doubt := range otherDoubts() {
		k, least, code := impl.WeakestLayer(nil, 1, 1, doubt)
		checkBounds(t, "WeakestLayer", k, least, code, 0, 0, impl.ErrRange)
		load, code := impl.MoreLoad(unstable, 1, 1, doubt, 1000)
		checkCoded(t, "MoreLoad", load, code, 0, impl.ErrRange)
	}
	for _, limit := range append(otherNumbers(), -1, 1000001) {
		load, code := impl.MoreLoad(unstable, 1, 1, 0, limit)
		checkCoded(t, "MoreLoad", load, code, 0, impl.ErrRange)
		load, code = impl.MoreLoad(nil, 1, 1, 0, limit)
		checkCoded(t, "MoreLoad of no layers", load, code, 0, impl.ErrRange)
	}
}

func TestNothingElseIsStable(t *testing.T) {
	for _, list := range badProfiles() {
		if impl.IsStable(list, 0, 1, 0, 0) {
			t.Errorf("a profile of %d layers that is not valid is stable", len(list))
		}
	}
	for _, list := range goodProfiles() {
		for _, field := range packFields(len(list))[1:] {
			for _, n := range []int64{field.least, field.greatest} {
				// With a limit of 0 each profile is stable, so that only the numbers count.
				q := withField(packQuestion{rise: 0, run: 100}, field, n)
				if !impl.IsStable(list, q.rise, q.run, q.doubt, q.limit) {
					t.Errorf("a profile of %d layers is not stable with %v", len(list), q)
				}
			}
			for _, n := range wrongNumbers(field) {
				q := withField(packQuestion{rise: 0, run: 100}, field, n)
				if impl.IsStable(list, q.rise, q.run, q.doubt, q.limit) {
					t.Errorf("a profile of %d layers is stable with %v", len(list), q)
				}
			}
		}
	}
}
