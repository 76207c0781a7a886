package tests

import (
	"fmt"
	"math"
	"math/big"
	"regexp"
	"strings"
	"testing"

	"loop.example/g01013/impl"
)

// fixedAsTold returns the text of a number with places, without the limits that FixedText has.
func fixedAsTold(n, places int64) string {
	scale := new(big.Int).Exp(big.NewInt(10), big.NewInt(places), nil)
	whole, rest := new(big.Int).QuoRem(new(big.Int).Abs(big.NewInt(n)), scale, new(big.Int))
	sign := ""
	if n < 0 {
		sign = "-"
	}
	return fmt.Sprintf("%s%s.%0*s", sign, whole, int(places), rest)
}

// fixedNumbers holds the numbers around all powers of ten, and around the limits.
func fixedNumbers() []int64 {
	list := []int64{0, 5, -5, 123456789, -123456789, 999000001}
	for scale := int64(1); scale <= impl.MaxUnit; scale *= 10 {
		for n := scale - 1; n <= scale+1; n++ {
			list = append(list, n, -n)
		}
	}
	return list
}

func TestFixedTextsAreReadBack(t *testing.T) {
	for places := int64(1); places <= 6; places++ {
		for _, n := range fixedNumbers() {
			want, wanted, isText := fixedAsTold(n, places), n, true
			if n > impl.MaxUnit || n < -impl.MaxUnit {
				want, wanted, isText = "", 0, false
			}
			if got := impl.FixedText(n, places); got != want {
				t.Errorf("FixedText(%d, %d) = %q, want %q", n, places, got, want)
			}
			if got, ok := impl.ReadFixed(fixedAsTold(n, places), places); got != wanted || ok != isText {
				t.Errorf("ReadFixed(%q, %d) = %d, %v", fixedAsTold(n, places), places, got, ok)
			}
		}
	}
}

func TestKnownFixedTexts(t *testing.T) {
	for _, c := range []struct {
		n, places int64
		want      string
	}{
		{0, 1, "0.0"}, {0, 6, "0.000000"}, {-5, 2, "-0.05"}, {5, 1, "0.5"}, {-5, 1, "-0.5"}, {-10, 1, "-1.0"}, {12345, 3, "12.345"}, {-12345, 3, "-12.345"},
		{1, 6, "0.000001"}, {-1, 6, "-0.000001"}, {1000000, 6, "1.000000"}, {999999, 6, "0.999999"}, {100, 2, "1.00"}, {1005, 2, "10.05"},
		{impl.MaxUnit, 1, "100000000.0"}, {-impl.MaxUnit, 1, "-100000000.0"}, {impl.MaxUnit, 6, "1000.000000"}, {-impl.MaxUnit, 6, "-1000.000000"},
	} {
		if got := impl.FixedText(c.n, c.places); got != c.want {
			t.Errorf("FixedText(%d, %d) = %q, want %q", c.n, c.places, got, c.want)
		}
	}
}

func TestFixedTextOfOtherNumbers(t *testing.T) {
	for places := int64(-2); places <= 9; places++ {
		for _, n := range append(otherNumbers(), impl.MaxUnit+1, -impl.MaxUnit-1) {
			if got := impl.FixedText(n, places); got != "" {
				t.Errorf("FixedText(%d, %d) = %q", n, places, got)
			}
		}
	}
	for _, places := range append(otherNumbers(), 0, -1, 7, 8, 18, 19) {
		for _, n := range []int64{0, 1, -1, 12345, impl.MaxUnit} {
			if got := impl.FixedText(n, places); got != "" {
				t.Errorf("FixedText(%d, %d) = %q", n, places, got)
			}
		}
		for _, s := range []string{"", ".", "-", "0", "0.", "1", "-1", "0.0", "1.0", "12.345", "0.0000000", "0.00000001", ".0", strings.Repeat("0", 100)} {
			if n, ok := impl.ReadFixed(s, places); n != 0 || ok {
				t.Errorf("ReadFixed(%q, %d) = %d, %v", s, places, n, ok)
			}
		}
	}
}

func TestReadFixedOfOtherTexts(t *testing.T) {
	for _, s := range []string{
		"", "-", ".", "-.", "..", "0", "-0", "00", "1", "12", "-12", "0.0", "0.5", "0.000", "0.005", "1.", "-1.", ".05", "-.05", ".00", "-0.00", "+0.00", "+1.00", "-+1.00", "--1.00",
		"00.05", "01.00", "-00.05", "-01.00", "0.5 ", " 0.05", "0.05 ", "- 0.05", "0 .05", "0. 5", "0,05", "0:05", "0-05", "0.0.5", "0..05", "0.05.", ".0.05", "1.-1", "1.+1", "0.-5", "0.+5",
		"0.0a", "a.00", "0x1.00", "1e1.00", "1_0.00", "0.0\x80", "0.0\n", "0.05\x00", "\uff10.05", "\u22120.05", "Inf", "NaN", "1.0e", "10000000.01", "-10000000.01", "100000000.00",
		"92233720368547758.07", "92233720368547758.08", "-92233720368547758.08", "184467440737095516.17", "0" + strings.Repeat("0", 100000) + ".05", strings.Repeat("9", 100000) + ".00", strings.Repeat(".", 100000),
	} {
		if n, ok := impl.ReadFixed(s, 2); n != 0 || ok {
			t.Errorf("ReadFixed(%.40q, 2) = %d, %v", s, n, ok)
		}
	}
}

func TestReadFixedOfAllShortTexts(t *testing.T) {
	zero := regexp.MustCompile(`^-[0.]*$`)
	for places := int64(1); places <= 6; places++ {
		canonical := regexp.MustCompile(fmt.Sprintf(`^-?(0|[1-9][0-9]*)\.[0-9]{%d}$`, places))
		check := func(s string) {
			n, ok := impl.ReadFixed(s, places)
			if ok != (canonical.MatchString(s) && !zero.MatchString(s)) || ok && fixedAsTold(n, places) != s || !ok && n != 0 {
				t.Errorf("ReadFixed(%q, %d) = %d, %v", s, places, n, ok)
			}
		}
		everyText("-+0.7 ", 6, check)
		nearTexts(fixedAsTold(-1234567, places), check)
		nearTexts(fixedAsTold(-1, places), check)
	}
}

func TestHourNumber(t *testing.T) {
	for _, day := range []int64{0, 1, 2, 366, 9000, impl.MaxDate - 1, impl.MaxDate} {
		for hour := int64(-3); hour <= 26; hour++ {
			want, wanted := 24*day+hour, int64(impl.OK)
			if hour < 0 || hour > 23 {
				want, wanted = 0, impl.ErrRange
			}
			if got, code := impl.HourNumber(day, hour); got != want || code != wanted {
				t.Errorf("HourNumber(%d, %d) = %d, %d", day, hour, got, code)
			}
		}
	}
	for _, n := range append(otherNumbers(), -1, impl.MaxDate+1) {
		for _, c := range [][2]int64{{n, 0}, {n, 23}, {n, 24}, {0, min(n, -1)}, {0, max(n, 24)}} {
			if got, code := impl.HourNumber(c[0], c[1]); got != 0 || code != impl.ErrRange {
				t.Errorf("HourNumber(%v) = %d, %d", c, got, code)
			}
		}
	}
}

func TestSnowHasTheMassOfItsHeight(t *testing.T) {
	for height := int64(0); height <= 2000; height++ {
		for density := int64(1); density <= 1000; density++ {
			mass, code := impl.SnowMass(height, density)
			if mass != 10*height*density || code != impl.OK {
				t.Fatalf("SnowMass(%d, %d) = %d, %d", height, density, mass, code)
			}
			if got, code := impl.SnowHeight(mass, density); got != height || code != impl.OK {
				t.Fatalf("SnowHeight(%d, %d) = %d, %d", mass, density, got, code)
			}
		}
	}
}

func TestSnowHeightIsNearest(t *testing.T) {
	for _, density := range []int64{1, 2, 3, 7, 30, 99, 100, 333, 999, 1000} {
		for _, whole := range []int64{0, 1, 2, 77, 2000, 99999} {
			middle := 10*density*whole + 5*density
			for mass := middle - 1; mass <= middle+1; mass++ {
				want := roundedQuotient(mass, 10*density).Int64()
				if got, code := impl.SnowHeight(mass, density); got != want || code != impl.OK {
					t.Errorf("SnowHeight(%d, %d) = %d, %d, want %d", mass, density, got, code, want)
				}
			}
		}
	}
}

func TestSnowHeightKnownValues(t *testing.T) {
	for _, c := range [][3]int64{{0, 1, 0}, {0, 1000, 0}, {100000, 200, 50}, {999, 200, 0}, {1000, 200, 1}, {2999, 200, 1}, {3000, 200, 2}, {impl.MaxUnit, 1, 100000000}, {impl.MaxUnit, 1000, 100000}, {impl.MaxUnit - 1, 1, 100000000}} {
		if got, code := impl.SnowHeight(c[0], c[1]); got != c[2] || code != impl.OK {
			t.Errorf("SnowHeight(%d, %d) = %d, %d, want %d", c[0], c[1], got, code, c[2])
		}
	}
}

func TestSnowLimits(t *testing.T) {
	for _, height := range append(otherNumbers(), -1, 2001) {
		for _, density := range []int64{0, 1, 200, 1000, 1001} {
			if mass, code := impl.SnowMass(height, density); mass != 0 || code != impl.ErrRange {
				t.Errorf("SnowMass(%d, %d) = %d, %d", height, density, mass, code)
			}
		}
	}
	for _, mass := range append(otherNumbers(), -1, impl.MaxUnit+1) {
		for _, density := range []int64{0, 1, 200, 1000, 1001} {
			if height, code := impl.SnowHeight(mass, density); height != 0 || code != impl.ErrRange {
				t.Errorf("SnowHeight(%d, %d) = %d, %d", mass, density, height, code)
			}
		}
	}
	for _, density := range append(otherNumbers(), -1, 0, 1001) {
		for _, n := range []int64{0, 1, 2000} {
			if mass, code := impl.SnowMass(n, density); mass != 0 || code != impl.ErrRange {
				t.Errorf("SnowMass(%d, %d) = %d, %d", n, density, mass, code)
			}
			if height, code := impl.SnowHeight(n, density); height != 0 || code != impl.ErrRange {
				t.Errorf("SnowHeight(%d, %d) = %d, %d", n, density, height, code)
			}
		}
	}
}

func TestBeaufortOf(t *testing.T) {
	limits := []int64{30, 160, 340, 550, 800, 1080, 1390, 1720, 2080, 2450, 2850, 3270}
	for speed := int64(0); speed <= 100000; speed++ {
		want := int64(0)
		for _, limit := range limits {
			if limit <= speed {
				want++
			}
		}
		if got, code := impl.BeaufortOf(speed); got != want || code != impl.OK {
			t.Fatalf("BeaufortOf(%d) = %d, %d, want %d", speed, got, code, want)
		}
	}
	for _, speed := range append(otherNumbers(), -1, -30, 100001) {
		if got, code := impl.BeaufortOf(speed); got != 0 || code != impl.ErrRange {
			t.Errorf("BeaufortOf(%d) = %d, %d", speed, got, code)
		}
	}
}

func TestWindName(t *testing.T) {
	for direction, want := range map[int64]string{0: "north", 1: "east", 2: "south", 3: "west", -1: "", 4: "", 5: "", 256: "", 1 << 32: "", math.MinInt64: "", math.MaxInt64: ""} {
		if got := impl.WindName(direction); got != want {
			t.Errorf("WindName(%d) = %q, want %q", direction, got, want)
		}
	}
}
