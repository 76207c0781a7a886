package tests

import (
	"regexp"
	"slices"
	"strconv"
	"strings"
	"testing"

	"loop.example/g01013/impl"
)

// partAsTold writes a part, as stated or not, number by number.
func partAsTold(x impl.Part) string {
	numbers := []string{}
	for _, n := range []int64{x.Length, x.Width, x.Depth, x.Density} {
		numbers = append(numbers, strconv.FormatInt(n, 10))
	}
	return strings.Join(numbers, ",")
}

func TestTextsOfPartsAreReadBack(t *testing.T) {
	for _, x := range slices.Concat(append(goodPaths(), mixedPaths(100)...)...) {
		want := partAsTold(x)
		if got := impl.PartText(x); got != want {
			t.Errorf("PartText(%v) = %q, want %q", x, got, want)
		}
		if got, ok := impl.ReadPart(want); got != x || !ok {
			t.Errorf("ReadPart(%q) = %v, %v", want, got, ok)
		}
	}
	for _, x := range badPartList() {
		if got := impl.PartText(x); got != "" {
			t.Errorf("PartText(%v) = %q", x, got)
		}
		if got, ok := impl.ReadPart(partAsTold(x)); got != (impl.Part{}) || ok {
			t.Errorf("ReadPart(%q) = %v, %v", partAsTold(x), got, ok)
		}
	}
}

func TestKnownTextsOfParts(t *testing.T) {
	for text, x := range map[string]impl.Part{
		"100,10,100,200": goodPart(), "1,1,0,1": leastPart(), "2000,500,500,1000": greatestPart(), "1,2,3,4": {Length: 1, Width: 2, Depth: 3, Density: 4},
	} {
		if got := impl.PartText(x); got != text {
			t.Errorf("PartText(%v) = %q, want %q", x, got, text)
		}
		if got, ok := impl.ReadPart(text); got != x || !ok {
			t.Errorf("ReadPart(%q) = %v, %v", text, got, ok)
		}
	}
}

func TestReadPartOfOtherTexts(t *testing.T) {
	for _, s := range []string{
		"", " ", "-", ",", ",,,", "1", "1,2,3", "1,2,3,", ",1,2,3", "1,,2,3", "1,2,3,4,", ",1,2,3,4", "1,2,3,4,5", "1,2,3,-", "-,2,3,4", "1,2,3,4 5", "part 1,2,3,4",
		" 1,2,3,4", "1,2,3,4 ", "1, 2,3,4", "1 ,2,3,4", "1,2,3,4\n", "1,2,3,4\x00", "\xff1,2,3,4", "\ufeff1,2,3,4", "1;2;3;4", "1 2 3 4", "1.2.3.4", "1:2:3:4", "1,2,3,4;", "1,2,3,4,1,2,3,4", "1\uff0c2,3,4",
		"01,2,3,4", "1,02,3,4", "1,2,03,4", "1,2,3,04", "1,2,00,4", "+1,2,3,4", "1,2,+3,4", "1,2,-0,4", "1.0,2,3,4", "1e0,2,3,4", "0x1,2,3,4", "1_0,2,3,4", "a,2,3,4", "--1,2,3,4", "\u22121,2,3,4", "\uff11,2,3,4",
		"0,2,3,4", "-1,2,3,4", "2001,2,3,4", "1,0,3,4", "1,-2,3,4", "1,501,3,4", "1,2,-1,4", "1,2,501,4", "1,2,3,0", "1,2,3,-4", "1,2,3,1001", "0,0,0,0",
		"18446744073709551617,2,3,4", "1,2,18446744073709551616,4", "1,2,3,1000000000001", strings.Repeat("1,", 63) + "1", strings.Repeat("1,", 64) + "1", strings.Repeat("1,", 100000) + "1", strings.Repeat("0", 100000) + "1,2,3,4", "1,2,3," + strings.Repeat("4", 100000), strings.Repeat(" ", 100000), strings.Repeat("1,2,3,4", 10000),
	} {
		if x, ok := impl.ReadPart(s); x != (impl.Part{}) || ok {
			t.Errorf("ReadPart(%.60q) = %v, %v", s, x, ok)
		}
	}
}

var partText = regexp.MustCompile(`^(?:[1-9][0-9]{0,2}|1[0-9]{3}|2000),(?:[1-9][0-9]?|[1-4][0-9]{2}|500),(?:0|[1-9][0-9]?|[1-4][0-9]{2}|500),(?:[1-9][0-9]{0,2}|1000)$`)

// checkPartText compares ReadPart with what an expression says of a text.
func checkPartText(t *testing.T, s string) {
	x, ok := impl.ReadPart(s)
	if ok != partText.MatchString(s) || ok && partAsTold(x) != s || !ok && x != (impl.Part{}) {
		t.Errorf("ReadPart(%q) = %v, %v", s, x, ok)
	}
}

func TestReadPartOfNearTexts(t *testing.T) {
	for _, s := range []string{"100,10,100,200", "1,1,0,1", "2000,500,500,1000", "1999,499,499,999", "200,50,50,100", "2001,1,1,1"} {
		nearTexts(s, func(s string) { checkPartText(t, s) })
	}
}

func TestReadPartOfAllShortTexts(t *testing.T) {
	everyText("01,", 7, func(s string) { checkPartText(t, s) })
	everyText("205", 4, func(s string) {
		for _, text := range []string{s + ",1,0,1", "1," + s + ",0,1", "1,1," + s + ",1", "1,1,0," + s} {
			checkPartText(t, text)
		}
	})
}
