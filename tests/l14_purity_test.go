package tests

import (
	"reflect"
	"slices"
	"strings"
	"testing"

	"loop.example/g01013/impl"
)

// Each function has exactly the type that chapter 14 gives.
var (
	_ func([]impl.PathPoint) bool                         = impl.ValidPath
	_ func([]impl.PathPoint, int64) (int64, int64)        = impl.TangentOf
	_ func([]impl.PathPoint, int64) (int64, int64)        = impl.GroundAt
	_ func([]impl.PathPoint, int64, int64) (int64, int64) = impl.LineAt
	_ func([]impl.PathPoint, int64) (int64, int64)        = impl.StopOf
	_ func([]impl.PathPoint, int64, int64) (int64, int64) = impl.SpeedAt
	_ func([]impl.PathPoint, int64) (int64, int64, int64) = impl.FastestAt
	_ func([]impl.PathPoint, int64) (int64, int64)        = impl.TangentFor
	_ func([]impl.PathPoint) (int64, int64)               = impl.BetaPoint
	_ func([]impl.PathPoint, int64, int64) (int64, int64) = impl.AlphaOf
	_ func([]impl.PathPoint, int64, int64) (int64, int64) = impl.RunoutOf
	_ func([]impl.PathPoint) string                       = impl.PathText
	_ func(string) ([]impl.PathPoint, bool)               = impl.ReadPath
	_                                                     = impl.PathPoint{Distance: int64(0), Height: int64(0)}
)

// slideResults holds the results of all functions of chapter 14 that take a path.
func slideResults(path []impl.PathPoint, q slideQuestion) []any {
	results := []any{impl.ValidPath(path), impl.PathText(path)}
	for _, f := range slideFunctions() {
		answers, code := f.call(path, q)
		results = append(results, answers, code)
	}
	return results
}

// checkEqualSlides checks that equal arguments give equal results.
func checkEqualSlides(t *testing.T, path []impl.PathPoint, q slideQuestion) {
	t.Helper()
	first, second := slideResults(path, q), slideResults(slices.Clone(path), q)
	if !reflect.DeepEqual(first, second) {
		t.Errorf("%.200v and %v: %v, then %v", path, q, first, second)
	}
}

func TestPathsStayAsTheyWere(t *testing.T) {
	for _, path := range append(goodTracks(), badTracks()...) {
		for _, q := range []slideQuestion{answeredSlide(), {}, {1, 1, 1, 1, 1}, {1, 3000, 0, 2000, 0}, {-1, -1, -1, -1, -1}} {
			// Spare points behind the path show a change of its unused capacity.
			whole := slices.Concat(path, answeredTrack())
			before := slices.Clone(whole)
			checkEqualSlides(t, whole[:len(path)], q)
			if !slices.Equal(whole, before) {
				t.Errorf("%.200v was changed", path)
			}
		}
	}
}

func TestSlidesReturnForOddNumbers(t *testing.T) {
	numbers := append(append(oddNumbers(), otherNumbers()...), 3, 200, 201, 999, 1000, 1001, 3000, 3001, 9000, 20000, 20001)
	for _, a := range numbers {
		for _, b := range numbers {
			for _, path := range [][]impl.PathPoint{nil, {}, {{}}, {{}, {}}, answeredTrack(), trackOf(0, 9000, 20000, 0), trackOf(0, 9000, 1, 0, 2, 0)} {
				checkEqualSlides(t, path, slideQuestion{k: a, tangent: b, distance: a, a: b, b: a})
				checkEqualSlides(t, path, slideQuestion{k: 1, tangent: a, distance: b, a: a, b: b})
			}
			for _, path := range [][]impl.PathPoint{trackOf(a, b), trackOf(0, a, b, a), trackOf(a, b, b, a), trackOf(0, 9000, a, b), trackOf(0, b, a, 0), trackOf(0, 9000, 1, a, b, 0), trackOf(a, a, a, a, b, b)} {
				checkEqualSlides(t, path, answeredSlide())
				checkEqualSlides(t, path, slideQuestion{k: a, tangent: b, distance: a, a: b, b: b})
			}
		}
	}
	checkEqualSlides(t, make([]impl.PathPoint, 100000), answeredSlide())
	checkEqualSlides(t, evenTrack(100000, 1, 0), answeredSlide())
}

func TestReadPathReturnsForOddTexts(t *testing.T) {
	for _, s := range append(oddTexts(), "0:1000 100:900 200:900", "0:0 1:0", strings.Repeat("0:1 ", 100000), strings.Repeat("\xff:", 100000), strings.Repeat(":\x00 ", 100000)) {
		first, isFirst := impl.ReadPath(s)
		second, isSecond := impl.ReadPath(strings.Clone(s))
		if !slices.Equal(first, second) || isFirst != isSecond {
			t.Errorf("ReadPath(%.20q) = %v, %v, then %v, %v", s, first, isFirst, second, isSecond)
		}
	}
}

func TestPathsReadAreNewMemory(t *testing.T) {
	for _, path := range goodTracks() {
		text := trackAsTold(path)
		first, _ := impl.ReadPath(text)
		second, _ := impl.ReadPath(text)
		overwrite(first, impl.PathPoint{Distance: -99, Height: -99})
		if !slices.Equal(second, path) {
			t.Errorf("two results of ReadPath(%q) share memory", text)
		}
	}
}

// TestSlidesAreAlwaysEqual asks the same again and again, with other questions in between.
func TestSlidesAreAlwaysEqual(t *testing.T) {
	paths := goodTracks()
	for i, path := range paths {
		want := slideResults(path, answeredSlide())
		for k := range 10 {
			slideResults(paths[(i+k)%len(paths)], slideQuestion{k: 1, tangent: 1 + int64(k), distance: 1, a: 1000, b: int64(k)})
			if got := slideResults(path, answeredSlide()); !reflect.DeepEqual(got, want) {
				t.Fatalf("%v: %v, then %v", path, want, got)
			}
		}
	}
}
