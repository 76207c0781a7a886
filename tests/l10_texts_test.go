package tests

import (
	"regexp"
	"slices"
	"strconv"
	"strings"
	"testing"

	"loop.example/g01013/impl"
)

// standAsTold writes a stand, as stated or not, number by number.
func standAsTold(x impl.Stand) string {
	numbers := []string{}
	for _, n := range []int64{x.Trees, x.Height, x.Cover, x.Gap} {
		numbers = append(numbers, strconv.FormatInt(n, 10))
	}
	return x.Id + " " + strings.Join(numbers, ",")
}

func TestTextsOfStandsAreReadBack(t *testing.T) {
	for _, x := range slices.Concat(append(goodForests(), mixedStands(500))...) {
		want := standAsTold(x)
		if got := impl.StandText(x); got != want {
			t.Errorf("StandText(%v) = %q, want %q", x, got, want)
		}
		if got, ok := impl.ReadStand(want); got != x || !ok {
			t.Errorf("ReadStand(%q) = %v, %v", want, got, ok)
		}
	}
	for _, x := range badStands() {
		if got := impl.StandText(x); got != "" {
			t.Errorf("StandText(%.80v) = %q", x, got)
		}
		if got, ok := impl.ReadStand(standAsTold(x)); got != (impl.Stand{}) || ok {
			t.Errorf("ReadStand(%.80q) = %v, %v", standAsTold(x), got, ok)
		}
	}
}

func TestKnownTextsOfStands(t *testing.T) {
	for text, x := range map[string]impl.Stand{
		"fir 400,600,700,30": goodStand(), "a 0,0,0,0": leastStand(), "zzzzzzzzzz 2000,5000,1000,100": greatestStand(), "oak 500,4000,1000,20": strongStand(), "b1 1,2,3,4": {Id: "b1", Trees: 1, Height: 2, Cover: 3, Gap: 4},
	} {
		if got := impl.StandText(x); got != text {
			t.Errorf("StandText(%v) = %q, want %q", x, got, text)
		}
		if got, ok := impl.ReadStand(text); got != x || !ok {
			t.Errorf("ReadStand(%q) = %v, %v", text, got, ok)
		}
	}
}

func TestReadStandOfOtherTexts(t *testing.T) {
	for _, s := range []string{
		"", " ", "-", "fir", "fir ", " fir", "fir -", "fir ,", "fir ,,,", "fir 4", "fir 4,6,7", "fir 4,6,7,", "fir ,4,6,7", "fir 4,6,7,3,", "fir 4,6,7,3,0", "fir ,4,6,7,3", "fir 4,,6,7", "fir 4,6,7,-", "fir -,6,7,3", "fir 4,6,7,3 0", "fir 0 4,6,7,3",
		"4,6,7,3", " 4,6,7,3", "0 4,6,7,3", "1 4,6,7,3", "1fir 4,6,7,3", "Fir 4,6,7,3", "FIR 4,6,7,3", "fIr 4,6,7,3", "f-r 4,6,7,3", "f.r 4,6,7,3", "fir: 4,6,7,3", "abcdefghijk 4,6,7,3", "fir4,6,7,3", "fir fir 4,6,7,3", "f ir 4,6,7,3",
		" fir 4,6,7,3", "fir 4,6,7,3 ", "fir  4,6,7,3", "fir\t4,6,7,3", "fir 4,6,7,3\n", "fir 4,6,7,3\x00", "\xfffir 4,6,7,3", "\ufefffir 4,6,7,3", "fir,4,6,7,3", "fir:4,6,7,3", "fir 4, 6,7,3", "fir 4 ,6,7,3", "fir 4;6;7;3", "fir 4 6 7 3", "f\u0456r 4,6,7,3", "fir\u00a04,6,7,3", "f\u00efr 4,6,7,3",
		"fir 04,6,7,3", "fir 4,06,7,3", "fir 4,6,07,3", "fir 4,6,7,03", "fir +4,6,7,3", "fir 4,6,7,+3", "fir -0,6,7,3", "fir 4,6,7,-0", "fir 4.0,6,7,3", "fir 4e0,6,7,3", "fir 0x4,6,7,3", "fir 1_0,6,7,3", "fir a,6,7,3", "fir --4,6,7,3", "fir \u22124,6,7,3", "fir \uff14,6,7,3",
		"fir -1,6,7,3", "fir 2001,6,7,3", "fir 4,-1,7,3", "fir 4,5001,7,3", "fir 4,6,-1,3", "fir 4,6,1001,3", "fir 4,6,7,-1", "fir 4,6,7,101", "fir 5000,6,7,3", "fir 4,6,7,1000",
		"fir 18446744073709551620,6,7,3", "fir 4,6,7,18446744073709551616", "fir 4,6,7,1000000000001", "fir " + strings.Repeat("1,", 63) + "1", "fir " + strings.Repeat("1,", 64) + "1", "fir " + strings.Repeat("1,", 100000) + "1", strings.Repeat("fir ", 100000) + "4,6,7,3", strings.Repeat("fir", 100000) + " 4,6,7,3", "fir " + strings.Repeat("0", 100000) + "4,6,7,3", strings.Repeat(" ", 100000),
	} {
		if x, ok := impl.ReadStand(s); x != (impl.Stand{}) || ok {
			t.Errorf("ReadStand(%.60q) = %v, %v", s, x, ok)
		}
	}
}

var standText = regexp.MustCompile(`^[a-z][a-z0-9]{0,9} (?:[1-9]?[0-9]|[1-9][0-9]{2}|1[0-9]{3}|2000),(?:[1-9]?[0-9]|[1-9][0-9]{2}|[1-4][0-9]{3}|5000),(?:[1-9]?[0-9]|[1-9][0-9]{2}|1000),(?:[1-9]?[0-9]|100)$`)

// isStandText says by itself whether a text is that of a stand.
func isStandText(s string) bool { return standText.MatchString(s) }

func TestReadStandOfNearTexts(t *testing.T) {
	for _, s := range []string{"fir 400,600,700,30", "a 0,0,0,0", "zzzzzzzzzz 2000,5000,1000,100", "z9 200,500,100,10", "abcdefghi 1999,4999,999,99", "A 1,1,1,1"} {
		nearTexts(s, func(s string) {
			x, ok := impl.ReadStand(s)
			if ok != isStandText(s) || ok && standAsTold(x) != s || !ok && x != (impl.Stand{}) {
				t.Errorf("ReadStand(%q) = %v, %v", s, x, ok)
			}
		})
	}
}
