package tests

import (
	"regexp"
	"strconv"
	"strings"
	"testing"

	"loop.example/g01013/impl"
)

// testAsTold writes a test, as stated or not, number by number.
func testAsTold(x impl.Test) string {
	numbers := []string{}
	for _, n := range []int64{x.Score, x.Quality, x.Depth, x.Hour} {
		numbers = append(numbers, strconv.FormatInt(n, 10))
	}
	return map[int64]string{1: "column", 2: "extended", 3: "block"}[x.Kind] + " " + strings.Join(numbers, ",")
}

func TestTextsOfTestsAreReadBack(t *testing.T) {
	for _, x := range append(allTests(), limitTests()...) {
		want := testAsTold(x)
		if got := impl.TestText(x); got != want {
			t.Errorf("TestText(%v) = %q, want %q", x, got, want)
		}
		if got, ok := impl.ReadTest(want); got != x || !ok {
			t.Errorf("ReadTest(%q) = %v, %v", want, got, ok)
		}
	}
	for _, x := range badTests() {
		if got := impl.TestText(x); got != "" {
			t.Errorf("TestText(%v) = %q", x, got)
		}
		if got, ok := impl.ReadTest(testAsTold(x)); got != (impl.Test{}) || ok {
			t.Errorf("ReadTest(%q) = %v, %v", testAsTold(x), got, ok)
		}
	}
}

func TestKnownTextsOfTests(t *testing.T) {
	for text, x := range map[string]impl.Test{
		"column 15,3,60,5": {Kind: impl.TsColumn, Score: 15, Quality: 3, Depth: 60, Hour: 5}, "extended 1,2,3,4": {Kind: impl.TsExtended, Score: 1, Quality: 2, Depth: 3, Hour: 4}, "block 2,2,50,1": {Kind: impl.TsBlock, Score: 2, Quality: 2, Depth: 50, Hour: 1},
		"column 0,1,1,0": {Kind: impl.TsColumn, Quality: 1, Depth: 1}, "extended 31,3,300,100000": {Kind: impl.TsExtended, Score: 31, Quality: 3, Depth: 300, Hour: 100000}, "block 7,3,300,100000": {Kind: impl.TsBlock, Score: 7, Quality: 3, Depth: 300, Hour: 100000},
	} {
		if got := impl.TestText(x); got != text {
			t.Errorf("TestText(%v) = %q, want %q", x, got, text)
		}
		if got, ok := impl.ReadTest(text); got != x || !ok {
			t.Errorf("ReadTest(%q) = %v, %v", text, got, ok)
		}
	}
}

func TestReadTestOfOtherTexts(t *testing.T) {
	for _, s := range []string{
		"", " ", "-", "column", "column ", " column", "column -", "column ,", "column ,,,", "column 5", "column 5,2,40", "column 5,2,40,", "column ,5,2,40", "column 5,2,40,12,", "column 5,2,40,12,0", "column ,5,2,40,12", "column 5,,2,40", "column 5,2,40,-", "column -,2,40,12",
		"5,2,40,12", " 5,2,40,12", "1 5,2,40,12", "0 5,2,40,12", "3 5,2,40,12", "rows 5,2,40,12", "Column 5,2,40,12", "COLUMN 5,2,40,12", "columns 5,2,40,12", "colum 5,2,40,12", "colummn 5,2,40,12", "block5,2,40,12", "blockextended 5,2,40,12", "block block 5,2,40,12", "extended column 5,2,40,12",
		" column 5,2,40,12", "column 5,2,40,12 ", "column  5,2,40,12", "column\t5,2,40,12", "column 5,2,40,12\n", "column 5,2,40,12\x00", "\xffcolumn 5,2,40,12", "column,5,2,40,12", "column:5,2,40,12", "column 5, 2,40,12", "column 5 ,2,40,12", "column 5;2;40;12", "column 5 2 40 12", "c\u043elumn 5,2,40,12", "column\u00a05,2,40,12",
		"column 05,2,40,12", "column 5,02,40,12", "column 5,2,040,12", "column 5,2,40,012", "column +5,2,40,12", "column 5,2,40,+12", "column -0,2,40,12", "column 0,2,40,-0", "column 5.0,2,40,12", "column 5e0,2,40,12", "column 0x5,2,40,12", "column 1_0,2,40,12", "column a,2,40,12", "column --5,2,40,12", "column \u22125,2,40,12",
		"column -1,2,40,12", "column 32,2,40,12", "extended -1,2,40,12", "extended 32,2,40,12", "block 0,2,40,12", "block 8,2,40,12", "block 31,2,40,12", "column 5,0,40,12", "column 5,4,40,12", "column 5,-1,40,12", "column 5,2,0,12", "column 5,2,301,12", "column 5,2,-40,12", "column 5,2,40,-1", "column 5,2,40,100001",
		"column 18446744073709551621,2,40,12", "column 5,2,40,18446744073709551616", "column 5,2,40,1000000000001", "column " + strings.Repeat("1,", 63) + "1", "column " + strings.Repeat("1,", 64) + "1", "column " + strings.Repeat("1,", 100000) + "1", strings.Repeat("column ", 100000) + "5,2,40,12", strings.Repeat("column", 100000), "column " + strings.Repeat("0", 100000) + "5,2,40,12", strings.Repeat(" ", 100000),
	} {
		if x, ok := impl.ReadTest(s); x != (impl.Test{}) || ok {
			t.Errorf("ReadTest(%.60q) = %v, %v", s, x, ok)
		}
	}
}

var testText = regexp.MustCompile(`^(?:(?:column|extended) (?:[0-9]|[12][0-9]|3[01])|block [1-7]),[1-3],(?:[1-9]|[1-9][0-9]|[12][0-9]{2}|300),(?:0|[1-9][0-9]{0,4}|100000)$`)

func TestReadTestOfNearTexts(t *testing.T) {
	for _, s := range []string{"column 15,3,60,5", "extended 31,1,300,100000", "block 2,2,50,99999", "block 7,1,1,0", "column 3,2,29,9999", "blocks 1,1,1,1", "block 1,1,1"} {
		nearTexts(s, func(s string) {
			x, ok := impl.ReadTest(s)
			if ok != testText.MatchString(s) || ok && testAsTold(x) != s || !ok && x != (impl.Test{}) {
				t.Errorf("ReadTest(%q) = %v, %v", s, x, ok)
			}
		})
	}
}

func TestReadTestOfAllShortNumbers(t *testing.T) {
	for _, kind := range []string{"column ", "extended ", "block "} {
		everyText("013,", 8, func(s string) {
			x, ok := impl.ReadTest(kind + s)
			if ok != testText.MatchString(kind+s) || ok && testAsTold(x) != kind+s || !ok && x != (impl.Test{}) {
				t.Errorf("ReadTest(%q) = %v, %v", kind+s, x, ok)
			}
		})
	}
}
