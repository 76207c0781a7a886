package tests

import (
	"reflect"
	"slices"
	"testing"

	"loop.example/g01013/impl"
)

// testQuestion holds all numbers that functions of chapter 8 take beside tests.
type testQuestion struct{ hour, within, near int64 }

// testFunction answers a question about tests; takes holds the names of the numbers that count for it.
type testFunction struct {
	name  string
	takes []string
	call  func([]impl.Test, testQuestion) ([]any, int64)
}

func testQuestionFields() []numberField[testQuestion] {
	return []numberField[testQuestion]{
		{"hour", func(q *testQuestion) *int64 { return &q.hour }, 0, 100000},
		{"within", func(q *testQuestion) *int64 { return &q.within }, 0, 300},
		{"near", func(q *testQuestion) *int64 { return &q.near }, 0, 300},
	}
}

func testFunctions() []testFunction {
	return []testFunction{
		{"WorstClass", nil, func(list []impl.Test, _ testQuestion) ([]any, int64) {
			class, code := impl.WorstClass(list)
			return []any{class}, code
		}},
		{"MeanClass", []string{"hour", "within"}, func(list []impl.Test, q testQuestion) ([]any, int64) {
			mean, code := impl.MeanClass(list, q.hour, q.within)
			return []any{mean}, code
		}},
		{"AgreeOf", nil, func(list []impl.Test, _ testQuestion) ([]any, int64) {
			share, code := impl.AgreeOf(list)
			return []any{share}, code
		}},
		{"WeakDepth", []string{"near"}, func(list []impl.Test, q testQuestion) ([]any, int64) {
			depth, most, code := impl.WeakDepth(list, q.near)
			return []any{depth, most}, code
		}},
		{"RecentTests", []string{"hour", "within"}, func(list []impl.Test, q testQuestion) ([]any, int64) {
			recent, code := impl.RecentTests(list, q.hour, q.within)
			return []any{recent}, code
		}},
		{"KindsUsed", nil, func(list []impl.Test, _ testQuestion) ([]any, int64) {
			kinds, code := impl.KindsUsed(list)
			return []any{kinds}, code
		}},
		{"ContradictTests", []string{"near"}, func(list []impl.Test, q testQuestion) ([]any, int64) {
			pairs, code := impl.ContradictTests(list, q.near)
			return []any{pairs}, code
		}},
		{"DepthGroups", []string{"near"}, func(list []impl.Test, q testQuestion) ([]any, int64) {
			groups, code := impl.DepthGroups(list, q.near)
			return []any{groups}, code
		}},
	}
}

// isNothing reports whether a result is a zero value; a nil slice and an empty one are equivalent.
func isNothing(x any) bool {
	value := reflect.ValueOf(x)
	return value.IsZero() || value.Kind() == reflect.Slice && value.Len() == 0
}

// answeredTests are tests for which each function has an answer to the question answeredQuestion.
func answeredTests() []impl.Test {
	return []impl.Test{testOf(1, 50, 10), testOf(3, 55, 10), testOf(2, 80, 200)}
}

func answeredQuestion() testQuestion { return testQuestion{hour: 200, within: 200, near: 7} }

// checkNoAnswer checks that a question has no answer but a code.
func checkNoAnswer(t *testing.T, f testFunction, list []impl.Test, q testQuestion, wanted int64) {
	t.Helper()
	results, code := f.call(list, q)
	if code != wanted || slices.ContainsFunc(results, func(x any) bool { return !isNothing(x) }) {
		t.Errorf("%s of %d tests and %v = %v, %d, want %d", f.name, len(list), q, results, code, wanted)
	}
}

func TestTestFunctionsAtTheirLimits(t *testing.T) {
	for _, f := range testFunctions() {
		if results, code := f.call(answeredTests(), answeredQuestion()); code != impl.OK || slices.ContainsFunc(results, isNothing) {
			t.Errorf("%s = %v, %d", f.name, results, code)
		}
		for _, field := range testQuestionFields() {
			for _, n := range []int64{field.least, field.least + 1, field.greatest - 1, field.greatest} {
				q := withField(answeredQuestion(), field, n)
				results, code := f.call(answeredTests(), q)
				// MeanClass has another error where no test is recent enough.
				if code != impl.OK && (f.name != "MeanClass" || code != impl.ErrNotFound) {
					t.Errorf("%s of %v = %v, %d", f.name, q, results, code)
				}
			}
		}
	}
}

func TestTestFunctionsOutOfRange(t *testing.T) {
	// Without tests, the wrong numbers still come before what is not found.
	for _, list := range [][]impl.Test{nil, {}, answeredTests(), testsOf(4, 4), slices.Repeat([]impl.Test{goodTest(3)}, impl.MaxTests)} {
		for _, f := range testFunctions() {
			for _, field := range testQuestionFields() {
				for _, n := range append(otherNumbers(), field.least-1, field.greatest+1) {
					if slices.Contains(f.takes, field.name) {
						checkNoAnswer(t, f, list, withField(answeredQuestion(), field, n), impl.ErrRange)
					}
				}
			}
		}
	}
}

// TestTestFunctionsLeaveOutOtherNumbers changes the numbers that a function does not take.
func TestTestFunctionsLeaveOutOtherNumbers(t *testing.T) {
	for _, f := range testFunctions() {
		want, _ := f.call(answeredTests(), answeredQuestion())
		for _, field := range testQuestionFields() {
			got, code := f.call(answeredTests(), withField(answeredQuestion(), field, -1))
			if !slices.Contains(f.takes, field.name) && (!reflect.DeepEqual(got, want) || code != impl.OK) {
				t.Errorf("%s with another %s = %v, %d, want %v", f.name, field.name, got, code, want)
			}
		}
	}
}

// TestTestFunctionsOfBadTests has good and wrong numbers: what is not valid comes first.
func TestTestFunctionsOfBadTests(t *testing.T) {
	for _, list := range badTestLists() {
		for _, f := range testFunctions() {
			checkNoAnswer(t, f, list, answeredQuestion(), impl.ErrInvalid)
			checkNoAnswer(t, f, list, testQuestion{hour: -1, within: -1, near: -1}, impl.ErrInvalid)
			checkNoAnswer(t, f, list, testQuestion{hour: 100001, within: 301, near: 301}, impl.ErrInvalid)
		}
	}
}

func TestFunctionsOfNoTests(t *testing.T) {
	for _, list := range [][]impl.Test{nil, {}} {
		for _, f := range testFunctions() {
			wanted := int64(impl.OK)
			if slices.Contains([]string{"WorstClass", "MeanClass", "AgreeOf", "WeakDepth"}, f.name) {
				wanted = impl.ErrNotFound
			}
			checkNoAnswer(t, f, list, answeredQuestion(), wanted)
		}
	}
}
