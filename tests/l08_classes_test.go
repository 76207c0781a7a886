package tests

import (
	"testing"

	"loop.example/g01013/impl"
)

// testFields holds the numbers of a test of a kind.
func testFields(kind int64) []numberField[impl.Test] {
	score := numberField[impl.Test]{"Score", func(x *impl.Test) *int64 { return &x.Score }, 0, 31}
	if kind == impl.TsBlock {
		score.least, score.greatest = 1, 7
	}
	return []numberField[impl.Test]{
		score,
		{"Quality", func(x *impl.Test) *int64 { return &x.Quality }, 1, 3},
		{"Depth", func(x *impl.Test) *int64 { return &x.Depth }, 1, 300},
		{"Hour", func(x *impl.Test) *int64 { return &x.Hour }, 0, 100000},
	}
}

func testKinds() []int64 { return []int64{impl.TsColumn, impl.TsExtended, impl.TsBlock} }

func otherKinds() []int64 { return append(otherNumbers(), -1, 0, 4, 5) }

// goodTest has a score that each kind may have.
func goodTest(kind int64) impl.Test {
	return impl.Test{Kind: kind, Score: 5, Quality: 2, Depth: 40, Hour: 12}
}

// limitTests holds tests in which one number is at a limit or next to it.
func limitTests() []impl.Test {
	tests := []impl.Test{}
	for _, kind := range testKinds() {
		for _, field := range testFields(kind) {
			for _, n := range []int64{field.least, field.least + 1, field.greatest - 1, field.greatest} {
				tests = append(tests, withField(goodTest(kind), field, n))
			}
		}
	}
	return tests
}

// badTests holds tests in which one number is not as it must be.
func badTests() []impl.Test {
	tests := []impl.Test{{}}
	for _, kind := range otherKinds() {
		tests = append(tests, goodTest(kind))
	}
	for _, kind := range testKinds() {
		for _, field := range testFields(kind) {
			for _, n := range append(otherNumbers(), field.least-1, field.greatest+1) {
				tests = append(tests, withField(goodTest(kind), field, n))
			}
		}
	}
	return append(tests, impl.Test{Kind: impl.TsBlock, Score: 31, Quality: 2, Depth: 40, Hour: 12}, impl.Test{Kind: impl.TsBlock, Score: 8, Quality: 3, Depth: 1})
}

// allTests holds a test of each kind, score and quality.
func allTests() []impl.Test {
	tests := []impl.Test{}
	for _, kind := range testKinds() {
		scores := testFields(kind)[0]
		for score := scores.least; score <= scores.greatest; score++ {
			for quality := int64(1); quality <= 3; quality++ {
				tests = append(tests, impl.Test{Kind: kind, Score: score, Quality: quality, Depth: 1 + score*quality, Hour: score})
			}
		}
	}
	return tests
}

// lastScores holds the greatest score of the classes 1 to 3 of each kind.
func lastScores() map[int64][]int64 {
	return map[int64][]int64{impl.TsColumn: {10, 20, 30}, impl.TsExtended: {13, 22, 30}, impl.TsBlock: {2, 4, 6}}
}

func classAsTold(x impl.Test) int64 {
	class := int64(4)
	for i := 2; i >= 0; i-- {
		if x.Score <= lastScores()[x.Kind][i] {
			class = int64(i) + 1
		}
	}
	if x.Quality == 1 && class > 1 {
		return class - 1
	}
	if x.Quality == 3 && class < 4 {
		return class + 1
	}
	return class
}

func TestConstantsOfTests(t *testing.T) {
	if impl.TsColumn != 1 || impl.TsExtended != 2 || impl.TsBlock != 3 || impl.MaxTests != 16 {
		t.Error(impl.TsColumn, impl.TsExtended, impl.TsBlock, impl.MaxTests)
	}
}

func TestNamesOfKinds(t *testing.T) {
	for kind, want := range map[int64]string{1: "column", 2: "extended", 3: "block"} {
		if got := impl.TestName(kind); got != want {
			t.Errorf("TestName(%d) = %q, want %q", kind, got, want)
		}
	}
	for _, kind := range append(otherKinds(), -2, -3, 6, 100, 1<<32+1, 1<<32+2) {
		if got := impl.TestName(kind); got != "" {
			t.Errorf("TestName(%d) = %q", kind, got)
		}
	}
}

func TestClassOf(t *testing.T) {
	for _, x := range append(allTests(), limitTests()...) {
		got, code := impl.ClassOf(x)
		checkCoded(t, "ClassOf", got, code, classAsTold(x), impl.OK)
	}
}

func TestKnownClasses(t *testing.T) {
	// The classes of a score with the qualities 1, 2 and 3.
	for _, known := range []struct {
		kind, score int64
		classes     [3]int64
	}{
		{impl.TsColumn, 0, [3]int64{1, 1, 2}}, {impl.TsColumn, 1, [3]int64{1, 1, 2}}, {impl.TsColumn, 10, [3]int64{1, 1, 2}}, {impl.TsColumn, 11, [3]int64{1, 2, 3}}, {impl.TsColumn, 20, [3]int64{1, 2, 3}},
		{impl.TsColumn, 21, [3]int64{2, 3, 4}}, {impl.TsColumn, 30, [3]int64{2, 3, 4}}, {impl.TsColumn, 31, [3]int64{3, 4, 4}},
		{impl.TsExtended, 0, [3]int64{1, 1, 2}}, {impl.TsExtended, 11, [3]int64{1, 1, 2}}, {impl.TsExtended, 13, [3]int64{1, 1, 2}}, {impl.TsExtended, 14, [3]int64{1, 2, 3}}, {impl.TsExtended, 21, [3]int64{1, 2, 3}}, {impl.TsExtended, 22, [3]int64{1, 2, 3}},
		{impl.TsExtended, 23, [3]int64{2, 3, 4}}, {impl.TsExtended, 30, [3]int64{2, 3, 4}}, {impl.TsExtended, 31, [3]int64{3, 4, 4}},
		{impl.TsBlock, 1, [3]int64{1, 1, 2}}, {impl.TsBlock, 2, [3]int64{1, 1, 2}}, {impl.TsBlock, 3, [3]int64{1, 2, 3}}, {impl.TsBlock, 4, [3]int64{1, 2, 3}}, {impl.TsBlock, 5, [3]int64{2, 3, 4}}, {impl.TsBlock, 6, [3]int64{2, 3, 4}}, {impl.TsBlock, 7, [3]int64{3, 4, 4}},
	} {
		for i, want := range known.classes {
			x := impl.Test{Kind: known.kind, Score: known.score, Quality: int64(i) + 1, Depth: 300, Hour: 100000}
			got, code := impl.ClassOf(x)
			checkCoded(t, impl.TestText(x), got, code, want, impl.OK)
		}
	}
}

func TestClassOfOtherTests(t *testing.T) {
	for _, x := range badTests() {
		got, code := impl.ClassOf(x)
		checkCoded(t, "ClassOf", got, code, 0, impl.ErrInvalid)
	}
}

// TestBetterScoresHaveNoLesserClass is the first half of the ninth promise.
func TestBetterScoresHaveNoLesserClass(t *testing.T) {
	for _, kind := range testKinds() {
		scores := testFields(kind)[0]
		for quality := int64(1); quality <= 3; quality++ {
			last, most := int64(0), int64(0)
			for score := scores.least; score <= scores.greatest; score++ {
				class, code := impl.ClassOf(impl.Test{Kind: kind, Score: score, Quality: quality, Depth: 7, Hour: 3})
				if code != impl.OK || class < last || class < 1 || class > 4 {
					t.Errorf("the score %d of the kind %d has the class %d, %d, a lesser score has %d", score, kind, class, code, last)
				}
				last, most = class, score
			}
			if want := []int64{3, 4, 4}[quality-1]; last != want || most != scores.greatest {
				t.Errorf("the best score of the kind %d has the class %d with the quality %d", kind, last, quality)
			}
		}
	}
}

func TestBetterQualitiesHaveNoLesserClass(t *testing.T) {
	for _, x := range allTests() {
		if x.Quality == 3 {
			continue
		}
		class, _ := impl.ClassOf(x)
		x.Quality++
		better, _ := impl.ClassOf(x)
		if better < class || better > class+1 {
			t.Errorf("%v has the class %d, and %d with less quality", x, better, class)
		}
	}
}
