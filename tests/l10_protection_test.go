package tests

import (
	"fmt"
	"slices"
	"testing"

	"loop.example/g01013/impl"
)

// protectionAsTold takes the least one of three numbers, and 10 for each metre of a gap from the one above 20 on.
func protectionAsTold(x impl.Stand, snow int64) int64 {
	if x.Height-snow < snow {
		return 0
	}
	protection := slices.Min([]int64{1000, roundedQuotient(1000*x.Trees, 500).Int64(), x.Cover})
	for metre := int64(21); metre <= x.Gap && protection > 0; metre++ {
		protection -= 10
	}
	return max(protection, 0)
}

func someSnow() []int64 {
	return []int64{0, 1, 2, 99, 100, 299, 300, 301, 1000, 1999, 2000}
}

func someLeasts() []int64 {
	return []int64{0, 1, 2, 10, 400, 500, 600, 601, 700, 980, 981, 982, 999, 1000}
}

// standCase is a stand with what is asked about it, and the answer.
type standCase struct {
	x                 impl.Stand
	snow, least, want int64
	wanted            int64
}

func TestKnownProtections(t *testing.T) {
	for _, known := range []struct{ trees, height, cover, gap, snow, want int64 }{
		// The height is just twice the snow, and one less or more.
		{400, 600, 700, 30, 100, 600}, {400, 600, 700, 30, 300, 600}, {400, 600, 700, 30, 301, 0}, {400, 599, 700, 30, 300, 0}, {400, 601, 700, 30, 300, 600}, {400, 601, 700, 30, 301, 0}, {400, 602, 700, 30, 301, 600}, {400, 600, 700, 30, 299, 600}, {400, 600, 700, 30, 2000, 0},
		{400, 0, 700, 30, 0, 600}, {400, 0, 700, 30, 1, 0}, {400, 1, 700, 30, 1, 0}, {400, 2, 700, 30, 1, 600}, {400, 3999, 700, 30, 2000, 0}, {400, 4000, 700, 30, 2000, 600}, {400, 5000, 700, 30, 2000, 600}, {400, 5000, 700, 30, 0, 600},
		// The trees decide.
		{0, 5000, 1000, 0, 0, 0}, {1, 5000, 1000, 0, 0, 2}, {2, 5000, 1000, 0, 0, 4}, {100, 5000, 1000, 20, 0, 200}, {250, 5000, 501, 20, 0, 500}, {250, 5000, 500, 20, 0, 500}, {350, 5000, 700, 30, 0, 600}, {349, 5000, 700, 30, 0, 598}, {499, 5000, 1000, 0, 0, 998}, {499, 5000, 999, 0, 0, 998}, {499, 5000, 998, 0, 0, 998},
		// The cover decides.
		{2000, 5000, 0, 0, 0, 0}, {2000, 5000, 1, 0, 0, 1}, {2000, 5000, 999, 0, 0, 999}, {250, 5000, 499, 20, 0, 499}, {499, 5000, 997, 0, 0, 997}, {500, 5000, 997, 10, 0, 997}, {1, 5000, 1, 0, 0, 1},
		// 1000 decides.
		{500, 5000, 1000, 0, 0, 1000}, {501, 5000, 1000, 0, 0, 1000}, {2000, 5000, 1000, 0, 0, 1000}, {2000, 4000, 1000, 20, 2000, 1000},
		// The gap counts from 21 on, at most down to 0.
		{500, 5000, 1000, 19, 0, 1000}, {500, 5000, 1000, 20, 0, 1000}, {500, 5000, 1000, 21, 0, 990}, {500, 5000, 1000, 22, 0, 980}, {500, 5000, 1000, 100, 0, 200}, {500, 5000, 800, 100, 0, 0}, {500, 5000, 801, 100, 0, 1}, {500, 5000, 799, 100, 0, 0}, {500, 5000, 10, 21, 0, 0}, {500, 5000, 9, 21, 0, 0}, {500, 5000, 11, 21, 0, 1}, {500, 5000, 9, 20, 0, 9}, {500, 5000, 100, 29, 0, 10}, {500, 5000, 95, 29, 0, 5}, {500, 5000, 95, 30, 0, 0}, {50, 5000, 1000, 30, 0, 0}, {51, 5000, 1000, 30, 0, 2}, {0, 5000, 1000, 100, 0, 0}, {500, 5000, 0, 100, 0, 0}, {100, 5000, 1000, 100, 0, 0}, {2000, 5000, 1000, 100, 2000, 200},
		// What does not protect is not less than nothing.
		{0, 0, 0, 0, 0, 0}, {0, 0, 0, 100, 0, 0}, {0, 0, 0, 0, 2000, 0}, {2000, 0, 1000, 0, 2000, 0}, {2000, 0, 1000, 0, 0, 1000},
	} {
		x := standOf("fir", known.trees, known.height, known.cover, known.gap)
		got, code := impl.ProtectionOf(x, known.snow)
		checkCoded(t, fmt.Sprintf("ProtectionOf(%v, %d)", x, known.snow), got, code, known.want, impl.OK)
		checkCoded(t, fmt.Sprintf("what is told of %v and %d", x, known.snow), protectionAsTold(x, known.snow), impl.OK, known.want, impl.OK)
	}
}

func TestProtectionOfManyStands(t *testing.T) {
	for _, x := range mixedStands(3000) {
		for _, snow := range append(someSnow(), x.Height*2/5, min(x.Height/2, 2000), min(x.Height/2+1, 2000), min((x.Height+1)/2, 2000)) {
			got, code := impl.ProtectionOf(x, snow)
			checkCoded(t, fmt.Sprintf("ProtectionOf(%v, %d)", x, snow), got, code, protectionAsTold(x, snow), impl.OK)
		}
	}
}

// TestProtectionByEachNumber goes through all values of each number of a stand.
func TestProtectionByEachNumber(t *testing.T) {
	for _, x := range []impl.Stand{goodStand(), strongStand(), greatestStand(), standOf("elm", 90, 4000, 185, 25)} {
		for _, field := range standFields() {
			for n := field.least; n <= field.greatest; n++ {
				y := withField(x, field, n)
				for _, snow := range []int64{0, 300, 2000} {
					got, code := impl.ProtectionOf(y, snow)
					checkCoded(t, fmt.Sprintf("ProtectionOf(%v, %d)", y, snow), got, code, protectionAsTold(y, snow), impl.OK)
				}
			}
		}
	}
}

// TestMoreSnowNeverProtectsBetter goes through all snow from none on.
func TestMoreSnowNeverProtectsBetter(t *testing.T) {
	for _, x := range mixedStands(200) {
		before := int64(1000)
		for snow := int64(0); snow <= 2000; snow++ {
			got, code := impl.ProtectionOf(x, snow)
			if got > before || got < 0 || code != impl.OK {
				t.Fatalf("ProtectionOf(%v, %d) = %d, %d after %d under less snow", x, snow, got, code, before)
			}
			before = got
		}
	}
}

// mostSnowAsTold tries all snow from the greatest one down.
func mostSnowAsTold(x impl.Stand, least int64) (int64, int64) {
	for snow := int64(2000); snow >= 0; snow-- {
		if protectionAsTold(x, snow) >= least {
			return snow, impl.OK
		}
	}
	return 0, impl.ErrNotFound
}

func TestKnownMostSnow(t *testing.T) {
	for _, known := range []standCase{
		{x: goodStand(), least: 500, want: 300}, {x: goodStand(), least: 600, want: 300}, {x: goodStand(), least: 601, wanted: impl.ErrNotFound}, {x: goodStand(), least: 1, want: 300}, {x: goodStand(), least: 1000, wanted: impl.ErrNotFound},
		// Half the height is rounded down, and is at most the greatest snow.
		{x: standOf("fir", 500, 601, 1000, 0), least: 1000, want: 300}, {x: standOf("fir", 500, 602, 1000, 0), least: 1000, want: 301}, {x: standOf("fir", 500, 0, 1000, 0), least: 1000, want: 0}, {x: standOf("fir", 500, 1, 1000, 0), least: 1000, want: 0}, {x: standOf("fir", 500, 2, 1000, 0), least: 1000, want: 1}, {x: standOf("fir", 500, 3998, 1000, 0), least: 1000, want: 1999}, {x: standOf("fir", 500, 3999, 1000, 0), least: 1000, want: 1999}, {x: strongStand(), least: 1000, want: 2000}, {x: standOf("fir", 500, 4002, 1000, 0), least: 1000, want: 2000}, {x: standOf("fir", 500, 5000, 1000, 0), least: 1, want: 2000},
		// Each stand protects by at least nothing, also one that does not protect.
		{x: goodStand(), least: 0, want: 2000}, {x: leastStand(), least: 0, want: 2000}, {x: standOf("fir", 0, 0, 0, 100), least: 0, want: 2000}, {x: greatestStand(), least: 0, want: 2000},
		// These do not protect at all.
		{x: leastStand(), least: 1, wanted: impl.ErrNotFound}, {x: standOf("fir", 0, 5000, 1000, 0), least: 1, wanted: impl.ErrNotFound}, {x: standOf("fir", 2000, 5000, 0, 0), least: 1, wanted: impl.ErrNotFound}, {x: standOf("fir", 500, 5000, 800, 100), least: 1, wanted: impl.ErrNotFound}, {x: standOf("fir", 500, 5000, 801, 100), least: 1, want: 2000}, {x: standOf("fir", 500, 5000, 801, 100), least: 2, wanted: impl.ErrNotFound},
	} {
		got, code := impl.MostSnow(known.x, known.least)
		checkCoded(t, fmt.Sprintf("MostSnow(%v, %d)", known.x, known.least), got, code, known.want, known.wanted)
	}
}

func TestMostSnowOfManyStands(t *testing.T) {
	for _, x := range mixedStands(300) {
		for _, least := range append(someLeasts(), protectionAsTold(x, 0), min(1000, protectionAsTold(x, 0)+1)) {
			want, wanted := mostSnowAsTold(x, least)
			got, code := impl.MostSnow(x, least)
			checkCoded(t, fmt.Sprintf("MostSnow(%v, %d)", x, least), got, code, want, wanted)
		}
	}
}

// protectedAsTold returns the indices of the stands that protect enough.
func protectedAsTold(list []impl.Stand, snow, least int64) []int64 {
	indices := []int64{}
	for i, x := range list {
		if protectionAsTold(x, snow) >= least {
			indices = append(indices, int64(i))
		}
	}
	return indices
}

// weakestAmong asks from the last stand down, so that the first one of several stays.
func weakestAmong(list []impl.Stand, snow int64) (weakest, least, code int64) {
	code = impl.ErrNotFound
	for i := len(list) - 1; i >= 0; i-- {
		if protection := protectionAsTold(list[i], snow); code != impl.OK || protection <= least {
			weakest, least, code = int64(i), protection, impl.OK
		}
	}
	return weakest, least, code
}

func TestProtectedStands(t *testing.T) {
	for _, list := range append(goodForests(), mixedForests(10)...) {
		for _, snow := range someSnow() {
			for _, least := range someLeasts() {
				got, code := impl.ProtectedStands(list, snow, least)
				checkNumbers(t, fmt.Sprintf("ProtectedStands(%v, %d, %d)", list, snow, least), got, code, protectedAsTold(list, snow, least), impl.OK)
			}
		}
	}
	few := named(goodStand(), leastStand(), strongStand(), standOf("fir", 250, 5000, 1000, 20), standOf("fir", 2000, 3999, 1000, 0))
	for _, known := range []struct {
		snow, least int64
		want        []int64
	}{
		{0, 0, []int64{0, 1, 2, 3, 4}}, {2000, 0, []int64{0, 1, 2, 3, 4}}, {0, 1, []int64{0, 2, 3, 4}}, {300, 500, []int64{0, 2, 3, 4}}, {300, 501, []int64{0, 2, 4}}, {300, 600, []int64{0, 2, 4}}, {300, 601, []int64{2, 4}}, {301, 600, []int64{2, 4}}, {1999, 1000, []int64{2, 4}}, {2000, 1000, []int64{2}}, {2000, 500, []int64{2, 3}}, {2000, 1, []int64{2, 3}},
	} {
		got, code := impl.ProtectedStands(few, known.snow, known.least)
		checkNumbers(t, fmt.Sprintf("ProtectedStands under %d of at least %d", known.snow, known.least), got, code, known.want, impl.OK)
	}
}

func TestWeakestStand(t *testing.T) {
	for _, list := range append(goodForests(), mixedForests(20)...) {
		for _, snow := range someSnow() {
			want, wantLeast, wanted := weakestAmong(list, snow)
			got, least, code := impl.WeakestStand(list, snow)
			if got != want || least != wantLeast || code != wanted {
				t.Errorf("WeakestStand(%v, %d) = %d, %d, %d, want %d, %d, %d", list, snow, got, least, code, want, wantLeast, wanted)
			}
		}
	}
	weak, strong := standOf("fir", 100, 5000, 1000, 0), strongStand()
	for _, known := range []struct {
		list        []impl.Stand
		snow        int64
		want, least int64
	}{
		{named(strong), 0, 0, 1000}, {named(weak, strong), 0, 0, 200}, {named(strong, weak), 0, 1, 200}, {named(weak, weak), 0, 0, 200}, {named(strong, weak, weak), 0, 1, 200}, {named(strong, weak, strong, weak), 0, 1, 200}, {named(strong, strong), 2000, 0, 1000},
		// Stands that do not protect, for different causes, are as weak as each other.
		{named(strong, weak, goodStand(), leastStand()), 301, 2, 0}, {named(strong, leastStand(), goodStand()), 301, 1, 0}, {named(weak, standOf("fir", 0, 5000, 1000, 0), standOf("fir", 2000, 5000, 0, 0)), 0, 1, 0},
		{equalStands(strong, impl.MaxStands), 2000, 0, 1000}, {append(equalStands(strong, impl.MaxStands-1), standOf("z", 499, 5000, 1000, 0)), 2000, impl.MaxStands - 1, 998},
	} {
		got, least, code := impl.WeakestStand(known.list, known.snow)
		if got != known.want || least != known.least || code != impl.OK {
			t.Errorf("WeakestStand(%v, %d) = %d, %d, %d, want %d, %d", known.list, known.snow, got, least, code, known.want, known.least)
		}
	}
}
