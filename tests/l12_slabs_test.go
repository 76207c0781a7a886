package tests

import (
	"fmt"
	"slices"
	"testing"

	"loop.example/g01013/impl"
)

// slabQuestion holds all numbers that functions of chapter 12 without a list take.
type slabQuestion struct{ squares, depth, density, tonnes int64 }

// slabFunction answers a question; takes holds the names of the numbers that count for it.
type slabFunction struct {
	name  string
	takes []string
	call  func(slabQuestion) (int64, int64)
}

func slabFields(f slabFunction) []numberField[slabQuestion] {
	leastSquares := int64(0)
	if f.name == "DepositDepth" {
		leastSquares = 1
	}
	return []numberField[slabQuestion]{
		{"squares", func(q *slabQuestion) *int64 { return &q.squares }, leastSquares, 1000000},
		{"depth", func(q *slabQuestion) *int64 { return &q.depth }, 0, 1000},
		{"density", func(q *slabQuestion) *int64 { return &q.density }, 1, 1000},
		{"tonnes", func(q *slabQuestion) *int64 { return &q.tonnes }, 0, 100000000},
	}
}

func slabFunctions() []slabFunction {
	return []slabFunction{
		{"SlabVolume", []string{"squares", "depth"}, func(q slabQuestion) (int64, int64) { return impl.SlabVolume(q.squares, q.depth) }},
		{"SlabTonnes", []string{"squares", "depth", "density"}, func(q slabQuestion) (int64, int64) { return impl.SlabTonnes(q.squares, q.depth, q.density) }},
		{"SizeClass", []string{"tonnes"}, func(q slabQuestion) (int64, int64) { return impl.SizeClass(q.tonnes) }},
		{"DepositDepth", []string{"tonnes", "squares", "density"}, func(q slabQuestion) (int64, int64) { return impl.DepositDepth(q.tonnes, q.squares, q.density) }},
	}
}

func answeredSlab() slabQuestion {
	return slabQuestion{squares: 1000, depth: 50, density: 200, tonnes: 100}
}

func someSquares() []int64 {
	return []int64{0, 1, 2, 3, 49, 50, 99, 333, 1000, 12345, 499999, 999999, 1000000}
}

func someDepths() []int64 { return []int64{0, 1, 2, 7, 49, 50, 51, 99, 100, 333, 500, 999, 1000} }

func someDensities() []int64 { return []int64{1, 2, 3, 50, 99, 100, 101, 333, 500, 917, 999, 1000} }

func someTonnes() []int64 {
	return []int64{0, 1, 2, 9, 10, 11, 99, 100, 101, 999, 1000, 1001, 9999, 10000, 10001, 123456, 9999999, 10000000, 10000001, 99999999, 100000000}
}

func slabAsTold(squares, depth, density int64) int64 {
	return nearestOf(quotientOf(100000, squares, depth, density))
}

func TestSlabs(t *testing.T) {
	for _, squares := range someSquares() {
		for _, depth := range someDepths() {
			got, code := impl.SlabVolume(squares, depth)
			checkCoded(t, fmt.Sprint("SlabVolume ", squares, depth), got, code, nearestOf(quotientOf(100, squares, depth)), impl.OK)
			for _, density := range someDensities() {
				got, code := impl.SlabTonnes(squares, depth, density)
				checkCoded(t, fmt.Sprint("SlabTonnes ", squares, depth, density), got, code, slabAsTold(squares, depth, density), impl.OK)
			}
		}
	}
}

func TestKnownSlabVolumes(t *testing.T) {
	for _, known := range [][3]int64{
		{0, 0, 0}, {0, 1000, 0}, {1000000, 0, 0}, {1000, 50, 500}, {1000000, 1000, 10000000}, {1, 1, 0}, {1, 49, 0}, {1, 50, 1}, {1, 51, 1}, {1, 149, 1}, {1, 150, 2}, {3, 50, 2}, {49, 1, 0}, {50, 1, 1}, {7, 7, 0}, {7, 8, 1}, {999999, 999, 9989990},
	} {
		got, code := impl.SlabVolume(known[0], known[1])
		checkCoded(t, fmt.Sprint("SlabVolume ", known), got, code, known[2], impl.OK)
	}
}

func TestKnownSlabTonnes(t *testing.T) {
	for _, known := range [][4]int64{
		{0, 0, 1, 0}, {0, 1000, 1000, 0}, {1000000, 0, 1000, 0}, {1000, 50, 200, 100}, {1000000, 1000, 1000, 10000000}, {1000000, 1000, 999, 9990000}, {1, 1, 1, 0}, {1000, 50, 1, 1}, {999, 50, 1, 0}, {1000, 49, 1, 0}, {1000, 149, 1, 1}, {1000, 150, 1, 2}, {1, 100, 1000, 1}, {1, 50, 1000, 1}, {1, 50, 999, 0}, {1, 1000, 917, 9}, {1, 1000, 950, 10},
	} {
		got, code := impl.SlabTonnes(known[0], known[1], known[2])
		checkCoded(t, fmt.Sprint("SlabTonnes ", known), got, code, known[3], impl.OK)
	}
}

func TestSizeClass(t *testing.T) {
	for tonnes, want := range map[int64]int64{
		0: 1, 1: 1, 5: 1, 8: 1, 9: 1, 10: 2, 11: 2, 50: 2, 98: 2, 99: 2, 100: 3, 101: 3, 998: 3, 999: 3, 1000: 4, 1001: 4, 9998: 4, 9999: 4, 10000: 5, 10001: 5, 99999: 5, 100000: 5, 1000000: 5, 99999999: 5, 100000000: 5,
	} {
		got, code := impl.SizeClass(tonnes)
		checkCoded(t, fmt.Sprint("SizeClass ", tonnes), got, code, want, impl.OK)
	}
	// A class has as many digits as its masses, up to five.
	for tonnes := range int64(30000) {
		got, code := impl.SizeClass(tonnes)
		checkCoded(t, fmt.Sprint("SizeClass ", tonnes), got, code, int64(len(fmt.Sprint(tonnes))), impl.OK)
	}
}

func TestDepositDepth(t *testing.T) {
	for _, tonnes := range someTonnes() {
		for _, squares := range someSquares()[1:] {
			for _, density := range someDensities() {
				got, code := impl.DepositDepth(tonnes, squares, density)
				want := nearestOf(quotientOf(squares*density, tonnes, 100000))
				checkCoded(t, fmt.Sprint("DepositDepth ", tonnes, squares, density), got, code, want, impl.OK)
			}
		}
	}
}

func TestKnownDepositDepths(t *testing.T) {
	for _, known := range [][4]int64{
		{0, 1, 1, 0}, {0, 1000000, 1000, 0}, {100, 1000, 200, 50}, {1, 1, 1, 100000}, {1, 1, 1000, 100}, {1, 1000000, 1000, 0}, {100000000, 1000000, 1000, 10000},
		// Half a centimetre is rounded up, and a bit less is not.
		{1, 200000, 1, 1}, {1, 200001, 1, 0}, {1, 200, 1000, 1}, {1, 201, 1000, 0}, {3, 200000, 1, 2}, {1, 66667, 1, 1}, {1, 66666, 1, 2},
		// The tonnes times 100000 are more than MaxValue, and so is the depth.
		{10000000, 1, 1, 1000000000000}, {10000001, 1, 1, 1000000100000}, {100000000, 1, 1, 10000000000000}, {100000000, 3, 7, 476190476190}, {99999999, 1, 1000, 9999999900}, {10000001, 1000000, 1000, 1000},
	} {
		got, code := impl.DepositDepth(known[0], known[1], known[2])
		checkCoded(t, fmt.Sprint("DepositDepth ", known), got, code, known[3], impl.OK)
	}
}

// TestDepositsLieAsDeepAsTheirSlabs lets a slab lie where it was: what its tonnes lose is less than half a tonne.
func TestDepositsLieAsDeepAsTheirSlabs(t *testing.T) {
	for _, depth := range someDepths() {
		for _, density := range someDensities() {
			tonnes, _ := impl.SlabTonnes(1000000, depth, density)
			got, code := impl.DepositDepth(tonnes, 1000000, density)
			checkCoded(t, fmt.Sprint("DepositDepth of a slab ", depth, density), got, code, depth, impl.OK)
		}
	}
}

func TestSlabFunctionsAtTheirLimits(t *testing.T) {
	for _, f := range slabFunctions() {
		want, code := f.call(answeredSlab())
		if want == 0 || code != impl.OK {
			t.Errorf("%s = %d, %d", f.name, want, code)
		}
		for _, field := range slabFields(f) {
			for _, n := range []int64{field.least, field.least + 1, field.greatest - 1, field.greatest} {
				if got, code := f.call(withField(answeredSlab(), field, n)); code != impl.OK {
					t.Errorf("%s with the %s %d = %d, %d", f.name, field.name, n, got, code)
				}
			}
			for _, n := range append(otherNumbers(), field.least-1, field.greatest+1) {
				got, code := f.call(withField(answeredSlab(), field, n))
				if slices.Contains(f.takes, field.name) {
					checkCoded(t, fmt.Sprint(f.name, " with the ", field.name, " ", n), got, code, 0, impl.ErrRange)
					got, code = f.call(slabQuestion{squares: n, depth: n, density: n, tonnes: n})
					checkCoded(t, fmt.Sprint(f.name, " of ", n), got, code, 0, impl.ErrRange)
				} else {
					checkCoded(t, fmt.Sprint(f.name, " with another ", field.name), got, code, want, impl.OK)
				}
			}
		}
	}
}
