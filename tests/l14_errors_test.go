package tests

import (
	"reflect"
	"slices"
	"testing"

	"loop.example/g01013/impl"
)

// slideQuestion holds all numbers that functions of chapter 14 take beside a path.
type slideQuestion struct{ k, tangent, distance, a, b int64 }

// slideFunction answers a question about a path; takes holds the names of the numbers that count for it.
type slideFunction struct {
	name  string
	takes []string
	call  func([]impl.PathPoint, slideQuestion) ([]any, int64)
}

// slideNumbers holds the limits of all numbers, for a path that is valid.
func slideNumbers(path []impl.PathPoint) []numberField[slideQuestion] {
	return []numberField[slideQuestion]{
		{"k", func(q *slideQuestion) *int64 { return &q.k }, 1, int64(len(path)) - 1},
		{"tangent", func(q *slideQuestion) *int64 { return &q.tangent }, 1, 3000},
		{"distance", func(q *slideQuestion) *int64 { return &q.distance }, 0, path[len(path)-1].Distance},
		{"a", func(q *slideQuestion) *int64 { return &q.a }, 1, 2000},
		{"b", func(q *slideQuestion) *int64 { return &q.b }, 0, 1000},
	}
}

// oneSlide makes a function of one that answers with a number and a code.
func oneSlide(name string, takes []string, call func([]impl.PathPoint, slideQuestion) (int64, int64)) slideFunction {
	return slideFunction{name, takes, func(path []impl.PathPoint, q slideQuestion) ([]any, int64) {
		n, code := call(path, q)
		return []any{n}, code
	}}
}

func slideFunctions() []slideFunction {
	return []slideFunction{
		oneSlide("TangentOf", []string{"k"}, func(path []impl.PathPoint, q slideQuestion) (int64, int64) { return impl.TangentOf(path, q.k) }),
		oneSlide("GroundAt", []string{"distance"}, func(path []impl.PathPoint, q slideQuestion) (int64, int64) { return impl.GroundAt(path, q.distance) }),
		oneSlide("LineAt", []string{"tangent", "distance"}, func(path []impl.PathPoint, q slideQuestion) (int64, int64) {
			return impl.LineAt(path, q.tangent, q.distance)
		}),
		oneSlide("StopOf", []string{"tangent"}, func(path []impl.PathPoint, q slideQuestion) (int64, int64) { return impl.StopOf(path, q.tangent) }),
		oneSlide("SpeedAt", []string{"tangent", "distance"}, func(path []impl.PathPoint, q slideQuestion) (int64, int64) {
			return impl.SpeedAt(path, q.tangent, q.distance)
		}),
		{"FastestAt", []string{"tangent"}, func(path []impl.PathPoint, q slideQuestion) ([]any, int64) {
			distance, speed, code := impl.FastestAt(path, q.tangent)
			return []any{distance, speed}, code
		}},
		oneSlide("TangentFor", []string{"distance"}, func(path []impl.PathPoint, q slideQuestion) (int64, int64) {
			return impl.TangentFor(path, q.distance)
		}),
		oneSlide("BetaPoint", nil, func(path []impl.PathPoint, q slideQuestion) (int64, int64) { return impl.BetaPoint(path) }),
		oneSlide("AlphaOf", []string{"a", "b"}, func(path []impl.PathPoint, q slideQuestion) (int64, int64) { return impl.AlphaOf(path, q.a, q.b) }),
		oneSlide("RunoutOf", []string{"a", "b"}, func(path []impl.PathPoint, q slideQuestion) (int64, int64) { return impl.RunoutOf(path, q.a, q.b) }),
	}
}

func answeredSlide() slideQuestion {
	return slideQuestion{k: 1, tangent: 600, distance: 120, a: 600, b: 10}
}

// checkNoSlide checks that a question has no answer but a code.
func checkNoSlide(t *testing.T, f slideFunction, path []impl.PathPoint, q slideQuestion, wanted int64) {
	t.Helper()
	results, code := f.call(path, q)
	if code != wanted || slices.ContainsFunc(results, func(x any) bool { return !isNothing(x) }) {
		t.Errorf("%s of %.200v and %v = %v, %d, want %d", f.name, path, q, results, code, wanted)
	}
}

func TestSlideFunctionsAtTheirLimits(t *testing.T) {
	for _, f := range slideFunctions() {
		want, code := f.call(answeredTrack(), answeredSlide())
		if code != impl.OK || slices.ContainsFunc(want, isNothing) {
			t.Errorf("%s = %v, %d", f.name, want, code)
		}
		for _, field := range slideNumbers(answeredTrack()) {
			for _, n := range []int64{field.least, field.least + 1, field.greatest - 1, field.greatest} {
				results, code := f.call(answeredTrack(), withField(answeredSlide(), field, n))
				// With some of these numbers, a mass does not stop, or the tangent of a runout is none.
				if code != impl.OK && code != impl.ErrState && code != impl.ErrNotFound {
					t.Errorf("%s with the %s %d = %v, %d", f.name, field.name, n, results, code)
				}
			}
			if slices.Contains(f.takes, field.name) {
				continue
			}
			for _, n := range append(otherNumbers(), field.least-1, field.greatest+1) {
				if got, code := f.call(answeredTrack(), withField(answeredSlide(), field, n)); !reflect.DeepEqual(got, want) || code != impl.OK {
					t.Errorf("%s with the %s %d, which it does not take, = %v, %d, want %v", f.name, field.name, n, got, code, want)
				}
			}
		}
	}
}

// TestRangeOfSlidesComesFirst has paths without a beta point, without a stop or without a tangent of a runout, too.
func TestRangeOfSlidesComesFirst(t *testing.T) {
	for _, path := range [][]impl.PathPoint{answeredTrack(), answeredTrack()[:2], trackOf(0, 0, 1, 0), trackOf(0, 9000, 1, 0), trackOf(0, 9000, 1, 0, 2, 0), trackOf(0, 5, 1, 5, 20000, 5), evenTrack(24, 869, 391)} {
		for _, f := range slideFunctions() {
			for _, field := range slideNumbers(path) {
				if !slices.Contains(f.takes, field.name) {
					continue
				}
				for _, n := range append(otherNumbers(), -1, field.least-1, field.greatest+1) {
					for _, q := range []slideQuestion{{k: 1, tangent: 1, distance: 0, a: 1, b: 1000}, {k: 1, tangent: 3000, distance: 1, a: 2000, b: 0}} {
						checkNoSlide(t, f, path, withField(q, field, n), impl.ErrRange)
					}
					if n < 0 || n > 20000 {
						checkNoSlide(t, f, path, slideQuestion{n, n, n, n, n}, impl.ErrRange)
					}
				}
			}
		}
	}
}

// TestSlidesOfBadPaths has good and wrong numbers: what is not valid comes first.
func TestSlidesOfBadPaths(t *testing.T) {
	for _, path := range badTracks() {
		for _, f := range slideFunctions() {
			for _, q := range []slideQuestion{answeredSlide(), {}, {k: 1, tangent: 1, a: 1}, {-1, -1, -1, -1, -1}, {25, 3001, 20001, 2001, 1001}} {
				checkNoSlide(t, f, path, q, impl.ErrInvalid)
			}
		}
	}
}

// TestNotFoundOfRunoutsComesBeforeState has no beta point where a and b lead to no tangent either.
func TestNotFoundOfRunoutsComesBeforeState(t *testing.T) {
	for _, path := range [][]impl.PathPoint{answeredTrack()[:2], trackOf(0, 5, 1, 5), trackOf(0, 9000, 1, 0), evenTrack(24, 100, 18)} {
		for _, q := range []slideQuestion{{a: 1, b: 1000}, {a: 2000}, {a: 2000, b: 1000}} {
			for _, f := range slideFunctions()[8:] {
				checkNoSlide(t, f, path, q, impl.ErrNotFound)
			}
		}
	}
}
