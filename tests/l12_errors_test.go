package tests

import (
	"reflect"
	"slices"
	"testing"

	"loop.example/g01013/impl"
)

// pathQuestion holds all numbers that functions of chapter 12 take beside parts.
type pathQuestion struct{ tonnes, share, goal int64 }

// pathFunction answers a question about parts; takes holds the names of the numbers that count for it.
type pathFunction struct {
	name  string
	takes []string
	call  func([]impl.Part, pathQuestion) ([]any, int64)
}

func pathFields() []numberField[pathQuestion] {
	return []numberField[pathQuestion]{
		{"tonnes", func(q *pathQuestion) *int64 { return &q.tonnes }, 0, 100000000},
		{"share", func(q *pathQuestion) *int64 { return &q.share }, 0, 1000},
		{"goal", func(q *pathQuestion) *int64 { return &q.goal }, 0, 100000000},
	}
}

func pathFunctions() []pathFunction {
	return []pathFunction{
		{"GrowthOf", []string{"tonnes", "share"}, func(list []impl.Part, q pathQuestion) ([]any, int64) {
			masses, code := impl.GrowthOf(list, q.tonnes, q.share)
			return []any{masses}, code
		}},
		{"LargestMass", []string{"tonnes", "share"}, func(list []impl.Part, q pathQuestion) ([]any, int64) {
			index, most, code := impl.LargestMass(list, q.tonnes, q.share)
			return []any{index, most}, code
		}},
		{"LeastStart", []string{"share", "goal"}, func(list []impl.Part, q pathQuestion) ([]any, int64) {
			start, code := impl.LeastStart(list, q.share, q.goal)
			return []any{start}, code
		}},
	}
}

// answeredPath is one for which each function has an answer to the question answeredMass.
func answeredPath() []impl.Part { return pathWith(5, 3, 8, 8, 1) }

func answeredMass() pathQuestion { return pathQuestion{tonnes: 100, share: 1000, goal: 200} }

// checkNoPath checks that a question has no answer but a code.
func checkNoPath(t *testing.T, f pathFunction, list []impl.Part, q pathQuestion, wanted int64) {
	t.Helper()
	results, code := f.call(list, q)
	if code != wanted || slices.ContainsFunc(results, func(x any) bool { return !isNothing(x) }) {
		t.Errorf("%s of %.200v and %v = %v, %d, want %d", f.name, list, q, results, code, wanted)
	}
}

func TestPathFunctionsAtTheirLimits(t *testing.T) {
	for _, f := range pathFunctions() {
		want, code := f.call(answeredPath(), answeredMass())
		if code != impl.OK || slices.ContainsFunc(want, isNothing) {
			t.Errorf("%s = %v, %d", f.name, want, code)
		}
		for _, field := range pathFields() {
			for _, n := range []int64{field.least, field.least + 1, field.greatest - 1, field.greatest} {
				results, code := f.call(answeredPath(), withField(answeredMass(), field, n))
				// A mass of nearly MaxTonnes becomes greater.
				isTooGreat := field.name == "tonnes" && n >= field.greatest-1 && f.name != "LeastStart"
				if isTooGreat && code != impl.ErrState || !isTooGreat && code != impl.OK {
					t.Errorf("%s with the %s %d = %v, %d", f.name, field.name, n, results, code)
				}
			}
			if slices.Contains(f.takes, field.name) {
				continue
			}
			for _, n := range append(otherNumbers(), field.least-1, field.greatest+1) {
				if got, code := f.call(answeredPath(), withField(answeredMass(), field, n)); !reflect.DeepEqual(got, want) || code != impl.OK {
					t.Errorf("%s with the %s %d, which it does not take, = %v, %d, want %v", f.name, field.name, n, got, code, want)
				}
			}
		}
	}
}

// TestRangeOfPathsComesFirst has questions without an answer for other causes, too.
func TestRangeOfPathsComesFirst(t *testing.T) {
	for _, f := range pathFunctions() {
		for _, field := range pathFields() {
			if !slices.Contains(f.takes, field.name) {
				continue
			}
			for _, n := range append(otherNumbers(), field.least-1, field.greatest+1) {
				// There are no parts in which most is taken up, or a mass becomes too great.
				for _, list := range [][]impl.Part{nil, {}, answeredPath(), pathOf(greatestPart(), 24)} {
					for _, q := range []pathQuestion{answeredMass(), {}, {tonnes: 100000000, share: 1000, goal: 100000000}} {
						checkNoPath(t, f, list, withField(q, field, n), impl.ErrRange)
					}
				}
			}
		}
	}
}

// TestFunctionsOfBadPaths has good and wrong numbers: what is not valid comes first.
func TestFunctionsOfBadPaths(t *testing.T) {
	for _, list := range badPaths() {
		for _, f := range pathFunctions() {
			for _, q := range []pathQuestion{answeredMass(), {}, {tonnes: 100000000, share: 1000, goal: 100000000}, {tonnes: -1, share: -1, goal: -1}, {tonnes: 100000001, share: 1001, goal: 100000001}} {
				checkNoPath(t, f, list, q, impl.ErrInvalid)
			}
		}
	}
}

func TestPathsWithoutParts(t *testing.T) {
	for _, list := range [][]impl.Part{nil, {}} {
		for _, f := range pathFunctions() {
			wanted := int64(impl.OK)
			if f.name == "LargestMass" {
				wanted = impl.ErrNotFound
			}
			checkNoPath(t, f, list, pathQuestion{tonnes: 100000000, share: 1000}, wanted)
			checkNoPath(t, f, list, pathQuestion{}, wanted)
		}
	}
}
