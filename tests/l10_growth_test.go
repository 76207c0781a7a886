package tests

import (
	"fmt"
	"testing"

	"loop.example/g01013/impl"
)

// grownAsTold returns a stand after some years.
func grownAsTold(x impl.Stand, years int64) impl.Stand {
	for range years {
		x.Height += roundedQuotient(5000-x.Height, 50).Int64()
		x.Cover += roundedQuotient(1000-x.Cover, 40).Int64()
		if x.Gap > 0 {
			x.Gap--
		}
	}
	return x
}

// checkStand compares a stand and a code with those wanted.
func checkStand(t *testing.T, what string, got impl.Stand, code int64, want impl.Stand, wanted int64) {
	t.Helper()
	if got != want || code != wanted {
		t.Errorf("%s = %v, %d, want %v, %d", what, got, code, want, wanted)
	}
}

func TestKnownGrowth(t *testing.T) {
	for _, known := range []struct {
		years    int64
		from, to [3]int64
	}{
		{1, [3]int64{600, 700, 30}, [3]int64{688, 708, 29}}, {0, [3]int64{600, 700, 30}, [3]int64{600, 700, 30}}, {2, [3]int64{600, 700, 30}, [3]int64{774, 715, 28}}, {1, [3]int64{0, 0, 100}, [3]int64{100, 25, 99}}, {2, [3]int64{0, 0, 100}, [3]int64{198, 49, 98}},
		// What grows is rounded up from a half on.
		{1, [3]int64{1, 1, 1}, [3]int64{101, 26, 0}}, {1, [3]int64{25, 20, 2}, [3]int64{125, 45, 1}}, {1, [3]int64{26, 21, 2}, [3]int64{125, 45, 1}}, {1, [3]int64{24, 19, 2}, [3]int64{124, 44, 1}},
		// The last growth, and none any more, before the limits and at them.
		{1, [3]int64{4974, 979, 0}, [3]int64{4975, 980, 0}}, {1, [3]int64{4975, 980, 0}, [3]int64{4976, 981, 0}}, {1, [3]int64{4976, 981, 0}, [3]int64{4976, 981, 0}}, {200, [3]int64{4976, 981, 0}, [3]int64{4976, 981, 0}}, {200, [3]int64{4975, 980, 1}, [3]int64{4976, 981, 0}}, {200, [3]int64{4999, 999, 0}, [3]int64{4999, 999, 0}}, {200, [3]int64{5000, 1000, 0}, [3]int64{5000, 1000, 0}}, {1, [3]int64{5000, 1000, 1}, [3]int64{5000, 1000, 0}}, {1, [3]int64{4925, 940, 0}, [3]int64{4927, 942, 0}}, {1, [3]int64{4926, 941, 0}, [3]int64{4927, 942, 0}},
		{99, [3]int64{5000, 1000, 100}, [3]int64{5000, 1000, 1}}, {100, [3]int64{5000, 1000, 100}, [3]int64{5000, 1000, 0}}, {101, [3]int64{5000, 1000, 100}, [3]int64{5000, 1000, 0}}, {200, [3]int64{5000, 1000, 100}, [3]int64{5000, 1000, 0}},
	} {
		for _, trees := range []int64{0, 400, 2000} {
			from, to := standOf("fir", trees, known.from[0], known.from[1], known.from[2]), standOf("fir", trees, known.to[0], known.to[1], known.to[2])
			got, code := impl.GrowStand(from, known.years)
			checkStand(t, fmt.Sprintf("GrowStand(%v, %d)", from, known.years), got, code, to, impl.OK)
		}
	}
}

func TestGrowStand(t *testing.T) {
	for _, x := range mixedStands(500) {
		for _, years := range []int64{0, 1, 2, 3, 10, 20, 99, 100, 199, 200} {
			got, code := impl.GrowStand(x, years)
			checkStand(t, fmt.Sprintf("GrowStand(%v, %d)", x, years), got, code, grownAsTold(x, years), impl.OK)
			if !impl.ValidStands([]impl.Stand{got}) {
				t.Errorf("%v after %d years is not valid: %v", x, years, got)
			}
		}
	}
}

// TestGrowthYearByYear goes through all heights, covers and gaps.
func TestGrowthYearByYear(t *testing.T) {
	for n := range int64(5001) {
		x := standOf("fir", 400, n, n%1001, n%101)
		got, code := impl.GrowStand(x, 1)
		checkStand(t, fmt.Sprintf("GrowStand(%v, 1)", x), got, code, grownAsTold(x, 1), impl.OK)
	}
	for _, x := range []impl.Stand{leastStand(), goodStand(), greatestStand()} {
		last := x
		for years := range int64(201) {
			got, code := impl.GrowStand(x, years)
			checkStand(t, fmt.Sprintf("GrowStand(%v, %d)", x, years), got, code, last, impl.OK)
			last, _ = impl.GrowStand(last, 1)
		}
	}
}

// yearsAsTold lets a stand grow year by year, up to 200 of them.
func yearsAsTold(x impl.Stand, snow, least int64) (int64, int64) {
	for years := range int64(201) {
		if protectionAsTold(x, snow) >= least {
			return years, impl.OK
		}
		x = grownAsTold(x, 1)
	}
	return 0, impl.ErrNotFound
}

func checkYears(t *testing.T, x impl.Stand, snow, least, want, wanted int64) {
	t.Helper()
	got, code := impl.YearsUntil(x, snow, least)
	checkCoded(t, fmt.Sprintf("YearsUntil(%v, %d, %d)", x, snow, least), got, code, want, wanted)
}

func TestKnownYears(t *testing.T) {
	for _, known := range []standCase{
		{x: goodStand(), snow: 320, least: 600, want: 1}, {x: goodStand(), snow: 300, least: 600, want: 0}, {x: goodStand(), snow: 344, least: 600, want: 1}, {x: goodStand(), snow: 345, least: 600, want: 2}, {x: goodStand(), snow: 387, least: 600, want: 2}, {x: goodStand(), snow: 388, least: 600, want: 3}, {x: goodStand(), snow: 0, least: 601, want: 1}, {x: goodStand(), snow: 0, least: 618, want: 1}, {x: goodStand(), snow: 0, least: 619, want: 2}, {x: goodStand(), snow: 0, least: 635, want: 2}, {x: goodStand(), snow: 0, least: 636, want: 3}, {x: goodStand(), snow: 0, least: 600, want: 0},
		// 400 trees protect by 800 at most, however old they become.
		{x: goodStand(), snow: 0, least: 800, want: 16}, {x: goodStand(), snow: 2000, least: 800, want: 74}, {x: goodStand(), snow: 0, least: 801, wanted: impl.ErrNotFound}, {x: goodStand(), snow: 2000, least: 801, wanted: impl.ErrNotFound}, {x: goodStand(), snow: 0, least: 1000, wanted: impl.ErrNotFound},
		// Each stand protects by at least nothing, and one without trees never by more.
		{x: leastStand(), snow: 2000, least: 0, want: 0}, {x: leastStand(), snow: 0, least: 0, want: 0}, {x: leastStand(), snow: 0, least: 1, wanted: impl.ErrNotFound}, {x: standOf("fir", 0, 5000, 1000, 0), snow: 0, least: 1, wanted: impl.ErrNotFound}, {x: standOf("fir", 0, 0, 0, 100), snow: 2000, least: 1, wanted: impl.ErrNotFound},
		// The cover stops growing before its limit.
		{x: standOf("fir", 500, 5000, 980, 0), snow: 0, least: 981, want: 1}, {x: standOf("fir", 500, 5000, 980, 0), snow: 0, least: 982, wanted: impl.ErrNotFound}, {x: standOf("fir", 500, 5000, 981, 0), snow: 0, least: 982, wanted: impl.ErrNotFound}, {x: standOf("fir", 500, 5000, 999, 0), snow: 0, least: 1000, wanted: impl.ErrNotFound}, {x: standOf("fir", 500, 5000, 1000, 0), snow: 2000, least: 1000, want: 0},
		// A gap closes by a metre in each year, also where nothing else grows any more.
		{x: standOf("fir", 500, 5000, 1000, 21), snow: 2000, least: 1000, want: 1}, {x: standOf("fir", 500, 5000, 1000, 100), snow: 2000, least: 1000, want: 80}, {x: standOf("fir", 500, 5000, 1000, 100), snow: 2000, least: 201, want: 1}, {x: standOf("fir", 500, 5000, 1000, 100), snow: 2000, least: 210, want: 1}, {x: standOf("fir", 500, 5000, 1000, 100), snow: 2000, least: 211, want: 2}, {x: standOf("fir", 499, 5000, 1000, 100), snow: 2000, least: 998, want: 80}, {x: standOf("fir", 499, 5000, 1000, 100), snow: 2000, least: 999, wanted: impl.ErrNotFound},
		// It takes longest from nothing on; one more than this is never reached.
		{x: standOf("fir", 500, 0, 0, 100), snow: 2000, least: 981, want: 151}, {x: standOf("fir", 500, 0, 0, 100), snow: 2000, least: 980, want: 150}, {x: standOf("fir", 500, 0, 0, 100), snow: 2000, least: 982, wanted: impl.ErrNotFound},
		// The trees become high enough.
		{x: standOf("fir", 500, 3999, 1000, 0), snow: 2000, least: 1000, want: 1}, {x: standOf("fir", 500, 0, 1000, 0), snow: 1, least: 1000, want: 1}, {x: standOf("fir", 500, 0, 1000, 0), snow: 50, least: 1000, want: 1}, {x: standOf("fir", 500, 0, 1000, 0), snow: 51, least: 1000, want: 2}, {x: standOf("fir", 500, 0, 1000, 0), snow: 0, least: 1000, want: 0},
	} {
		checkYears(t, known.x, known.snow, known.least, known.want, known.wanted)
		want, wanted := yearsAsTold(known.x, known.snow, known.least)
		checkCoded(t, fmt.Sprintf("what is told of %v", known), want, wanted, known.want, known.wanted)
	}
}

func TestYearsUntil(t *testing.T) {
	codes := map[int64]int{}
	for _, x := range mixedStands(80) {
		for _, snow := range someSnow() {
			for _, least := range append(someLeasts(), protectionAsTold(x, 0)) {
				want, wanted := yearsAsTold(x, snow, least)
				checkYears(t, x, snow, least, want, wanted)
				codes[wanted]++
			}
		}
	}
	if codes[impl.OK] < 100 || codes[impl.ErrNotFound] < 100 {
		t.Errorf("too few of some codes: %v", codes)
	}
}

// TestYearsUntilAreJustEnough asks the functions themselves before these years, and after them.
func TestYearsUntilAreJustEnough(t *testing.T) {
	for _, x := range mixedStands(300) {
		for _, least := range []int64{1, 300, 900, 981} {
			years, code := impl.YearsUntil(x, 900, least)
			if code == impl.ErrNotFound {
				years = 201
			}
			for _, age := range []int64{0, years - 1, years, years + 1, 200} {
				old, code := impl.GrowStand(x, age)
				if code != impl.OK {
					continue
				}
				if got, _ := impl.ProtectionOf(old, 900); (got >= least) != (age >= years) {
					t.Errorf("%v protects by %d after %d years, though YearsUntil of %d returns %d", x, got, age, least, years)
				}
			}
		}
	}
}
