package tests

import (
	"math"
	"math/big"
	"testing"

	"loop.example/g01013/impl"
)

// roundedQuotient returns what DivRound promises in wide integers: adding half of |b| to |a| before
// an exact division rounds a tie away from 0.
func roundedQuotient(a, b int64) *big.Int {
	x, y := new(big.Int).Abs(big.NewInt(a)), new(big.Int).Abs(big.NewInt(b))
	up := new(big.Int).Add(new(big.Int).Lsh(x, 1), y)
	q := up.Quo(up, new(big.Int).Lsh(y, 1))
	if (a < 0) != (b < 0) {
		q.Neg(q)
	}
	return q
}

func checkQuotient(t *testing.T, a, b int64) {
	t.Helper()
	want := roundedQuotient(a, b)
	if got := impl.DivRound(a, b); big.NewInt(got).Cmp(want) != 0 {
		t.Errorf("DivRound(%d, %d) = %d, want %s", a, b, got, want)
	}
}

// checkSigns checks a quotient with each combination of signs.
func checkSigns(t *testing.T, a, b int64) {
	t.Helper()
	checkQuotient(t, a, b)
	checkQuotient(t, -a, b)
	checkQuotient(t, a, -b)
	checkQuotient(t, -a, -b)
}

func TestDivRoundKnownValues(t *testing.T) {
	for _, c := range [][3]int64{
		{-5, 2, -3}, {5, 2, 3}, {5, -2, -3}, {-5, -2, 3}, {4, 3, 1}, {5, 3, 2}, {-4, 3, -1}, {-5, 3, -2},
		{1, 2, 1}, {-1, 2, -1}, {1, -2, -1}, {-1, -2, 1}, {1, 3, 0}, {-1, 3, 0}, {2, 3, 1}, {0, 5, 0}, {0, -5, 0}, {6, 3, 2}, {-6, 3, -2},
	} {
		if got := impl.DivRound(c[0], c[1]); got != c[2] {
			t.Errorf("DivRound(%d, %d) = %d, want %d", c[0], c[1], got, c[2])
		}
	}
}

func TestDivRoundIsNearest(t *testing.T) {
	for a := int64(-70); a <= 70; a++ {
		for b := int64(-70); b <= 70; b++ {
			if b != 0 {
				checkQuotient(t, a, b)
			}
		}
	}
}

func TestDivRoundBetweenIntegers(t *testing.T) {
	for _, b := range []int64{2, 3, 10, 999, 1000, 1000000, 999999999999, impl.MaxValue} {
		for _, whole := range []int64{0, 1, 17, impl.MaxValue / b} {
			middle := whole*b + b/2
			for a := middle - 2; a <= middle+2; a++ {
				if a >= 0 && a <= impl.MaxValue {
					checkSigns(t, a, b)
				}
			}
		}
	}
}

func TestDivRoundLimits(t *testing.T) {
	const most = impl.MaxValue
	for _, b := range []int64{1, 2, 3, 7, most - 1, most} {
		checkSigns(t, most, b)
		checkSigns(t, most-1, b)
		checkSigns(t, 1, b)
	}
	for _, c := range [][2]int64{
		{7, 0}, {0, 0}, {-7, 0}, {most, 0},
		{most + 1, 2}, {-most - 1, 2}, {most + 1, most}, {most, most + 1}, {most, -most - 1}, {-most - 1, -most - 1}, {most + 1, 0},
		{math.MinInt64, -1}, {math.MinInt64, 1}, {math.MaxInt64, 1}, {1, math.MinInt64}, {math.MinInt64, math.MinInt64}, {math.MaxInt64, math.MaxInt64}, {math.MinInt64, 0},
	} {
		if got := impl.DivRound(c[0], c[1]); got != 0 {
			t.Errorf("DivRound(%d, %d) = %d, want 0", c[0], c[1], got)
		}
	}
}

func checkRoot(t *testing.T, n int64) {
	t.Helper()
	want := new(big.Int).Sqrt(big.NewInt(n)).Int64()
	if got := impl.RootOf(n); got != want {
		t.Errorf("RootOf(%d) = %d, want %d", n, got, want)
	}
}

func TestRootOf(t *testing.T) {
	for n := range int64(5000) {
		checkRoot(t, n)
	}
	for root := int64(1); root < 3037000499; root += root/3 + 1 {
		checkRoot(t, root*root-1)
		checkRoot(t, root*root)
		checkRoot(t, root*root+1)
	}
	const last = 3037000499
	for _, n := range []int64{last*last - 1, last * last, last*last + 1, math.MaxInt64 - 1, math.MaxInt64} {
		checkRoot(t, n)
	}
	for bit := range 63 {
		checkRoot(t, 1<<bit)
		checkRoot(t, 1<<bit-1)
	}
}

func TestRootOfNegativeNumbers(t *testing.T) {
	for _, n := range []int64{-1, -4, -impl.MaxValue, math.MinInt64 + 1, math.MinInt64} {
		if got := impl.RootOf(n); got != 0 {
			t.Errorf("RootOf(%d) = %d, want 0", n, got)
		}
	}
}

// blendCase holds x0, y0, x1, y1, x and the value wanted.
type blendCase [6]int64

func checkBlends(t *testing.T, cases []blendCase) {
	t.Helper()
	for _, c := range cases {
		if got := impl.Blend(c[0], c[1], c[2], c[3], c[4]); got != c[5] {
			t.Errorf("Blend(%d, %d, %d, %d, %d) = %d, want %d", c[0], c[1], c[2], c[3], c[4], got, c[5])
		}
	}
}

func TestBlendBetweenPoints(t *testing.T) {
	checkBlends(t, []blendCase{
		{0, 10, 4, 20, 1, 13}, {0, 10, 4, 20, 2, 15}, {0, 10, 4, 20, 3, 18}, {0, 20, 4, 10, 1, 17}, {0, 20, 4, 10, 3, 12},
		{0, 0, 2, 1, 1, 1}, {0, 0, 2, -1, 1, -1}, {0, 10, 2, 9, 1, 9}, {0, -10, 2, -9, 1, -9}, {-4, 7, 4, 7, 0, 7}, {-3, -3, 3, 3, -2, -2},
		{0, 10, 4, 20, 0, 10}, {0, 10, 4, 20, 4, 20},
	})
}

func TestBlendOutsidePoints(t *testing.T) {
	checkBlends(t, []blendCase{
		{0, 10, 4, 20, -1, 10}, {0, 10, 4, 20, 5, 20}, {0, 10, 4, 20, math.MinInt64, 10}, {0, 10, 4, 20, math.MaxInt64, 20},
		{4, 10, 4, 20, 3, 10}, {4, 10, 4, 20, 4, 10}, {4, 10, 4, 20, 9, 10},
		{4, 10, 0, 20, -1, 10}, {4, 10, 0, 20, 0, 10}, {4, 10, 0, 20, 2, 10}, {4, 10, 0, 20, 4, 10}, {4, 10, 0, 20, 9, 10},
		{4, 10, 0, 20, math.MinInt64, 10}, {4, 10, 0, 20, math.MaxInt64, 10}, {5, -8, 4, 20, math.MaxInt64, -8},
	})
}

func TestBlendLimits(t *testing.T) {
	const most = 1000000
	checkBlends(t, []blendCase{
		{-most, -most, most, most, 1, 1}, {-most, -most, most, most, most - 1, most - 1}, {-most, most, most, -most, -most + 1, most - 1},
		{-most, most, most, -most, 999, -999}, {0, -most, most, most, most - 1, most - 2},
		{-most, 5, most, 9, math.MinInt64, 5}, {-most, 5, most, 9, math.MaxInt64, 9}, {0, most, 4, -most, -1, most}, {0, most, 4, -most, 5, -most},
	})
	points := blendCase{1, 30, 3, 50, 2, 0}
	for place := range 4 {
		for _, n := range []int64{most + 1, -most - 1, math.MaxInt64, math.MinInt64} {
			for _, x := range []int64{0, 2, 4, math.MinInt64, math.MaxInt64} {
				c := points
				c[place], c[4] = n, x
				checkBlends(t, []blendCase{c})
			}
		}
	}
}

// A line that rises by a whole number for each step needs no rounding, and meets both points.
func TestBlendOfWholeSteps(t *testing.T) {
	for step := int64(-9); step <= 9; step++ {
		for x := int64(-30); x <= 30; x++ {
			inside := min(max(x, -20), 20)
			checkBlends(t, []blendCase{{-20, 3 - 20*step, 20, 3 + 20*step, x, 3 + inside*step}})
		}
	}
}

func TestBlendRoundsTheDifference(t *testing.T) {
	for y0 := int64(-4); y0 <= 4; y0++ {
		for y1 := int64(-4); y1 <= 4; y1++ {
			for x := int64(1); x < 6; x++ {
				want := y0 + roundedQuotient((y1-y0)*x, 6).Int64()
				checkBlends(t, []blendCase{{0, y0, 6, y1, x, want}, {-100, y0, -94, y1, x - 100, want}})
			}
		}
	}
}
