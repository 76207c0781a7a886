package tests

import (
	"math"
	"regexp"
	"slices"
	"strings"
	"testing"

	"loop.example/g01013/impl"
)

// everyText calls use for all texts of at most size bytes of an alphabet.
func everyText(alphabet string, size int, use func(string)) {
	use("")
	if size == 0 {
		return
	}
	for i := range len(alphabet) {
		everyText(alphabet, size-1, func(rest string) { use(alphabet[i:i+1] + rest) })
	}
}

// repeated returns a list of count equal numbers.
func repeated(n int64, count int) []int64 {
	return slices.Repeat([]int64{n}, count)
}

func TestConstantsOfBasics(t *testing.T) {
	got := []int64{
		impl.OK, impl.ErrInvalid, impl.ErrRange, impl.ErrNotFound, impl.ErrExists, impl.ErrFull,
		impl.ErrState, impl.ErrOrder, impl.ErrSyntax, impl.ErrFormat, impl.ErrChecksum, impl.ErrTruncated,
		impl.MaxName, impl.MaxList, impl.MaxBudget, impl.MaxValue, impl.CrcStart,
	}
	want := []int64{0, 1, 2, 3, 4, 5, 6, 7, 8, 9, 10, 11, 10, 64, 20000, 1000000000000, 65535}
	if !slices.Equal(got, want) {
		t.Errorf("got %v, want %v", got, want)
	}
}

func TestCodeName(t *testing.T) {
	want := map[int64]string{
		impl.OK: "ok", impl.ErrInvalid: "invalid", impl.ErrRange: "range", impl.ErrNotFound: "not-found",
		impl.ErrExists: "exists", impl.ErrFull: "full", impl.ErrState: "state", impl.ErrOrder: "order",
		impl.ErrSyntax: "syntax", impl.ErrFormat: "format", impl.ErrChecksum: "checksum", impl.ErrTruncated: "truncated",
		-1: "", 12: "", 256: "", 1 << 32: "", math.MinInt64: "", math.MaxInt64: "",
	}
	for code, name := range want {
		if got := impl.CodeName(code); got != name {
			t.Errorf("CodeName(%d) = %q, want %q", code, got, name)
		}
	}
}

func TestIsNameByBytes(t *testing.T) {
	const letters, digits = "abcdefghijklmnopqrstuvwxyz", "0123456789"
	for b := range 256 {
		c := string([]byte{byte(b)})
		letter, digit := strings.Contains(letters, c), strings.Contains(digits, c)
		if got := impl.IsName(c); got != letter {
			t.Errorf("IsName(%q) = %v", c, got)
		}
		for _, s := range []string{"a" + c, "a" + c + "z", "abcdefghi" + c} {
			if got := impl.IsName(s); got != (letter || digit) {
				t.Errorf("IsName(%q) = %v", s, got)
			}
		}
	}
}

func TestIsNameByLength(t *testing.T) {
	for n := range 30 {
		want := n >= 1 && n <= impl.MaxName
		if got := impl.IsName(strings.Repeat("z", n)); got != want {
			t.Errorf("IsName of %d letters = %v", n, got)
		}
	}
	// Eleven bytes, though only ten letters for a reader.
	for _, s := range []string{"abcdefghi\u00e9", "\u00e9", "gr\u00fcn", " a", "a ", "a b", "a\x00", "a\n", "a_b", "a-b", "7a"} {
		if impl.IsName(s) {
			t.Errorf("IsName(%q) = true", s)
		}
	}
}

func TestDecimal(t *testing.T) {
	for n, want := range map[int64]string{
		0: "0", 7: "7", -7: "-7", 10: "10", -120: "-120",
		999999999999999999: "999999999999999999", 1000000000000000000: "1000000000000000000",
		math.MaxInt64: "9223372036854775807", math.MinInt64: "-9223372036854775808",
	} {
		if got := impl.Decimal(n); got != want {
			t.Errorf("Decimal(%d) = %q, want %q", n, got, want)
		}
	}
}

func TestReadDecimalReadsBack(t *testing.T) {
	numbers := []int64{0, 1, -1, 9, 10, -10, 100, impl.MaxValue, -impl.MaxValue, 999999999999999999, -999999999999999999}
	for n := int64(1); n < 1000000000000000000; n = n*7 + 3 {
		numbers = append(numbers, n, -n)
	}
	for _, n := range numbers {
		if got, ok := impl.ReadDecimal(impl.Decimal(n)); got != n || !ok {
			t.Errorf("ReadDecimal(%q) = %d, %v", impl.Decimal(n), got, ok)
		}
	}
	for _, n := range []int64{1000000000000000000, -1000000000000000000, math.MaxInt64, math.MinInt64} {
		if got, ok := impl.ReadDecimal(impl.Decimal(n)); got != 0 || ok {
			t.Errorf("ReadDecimal of 19 digits %q = %d, %v", impl.Decimal(n), got, ok)
		}
	}
}

func TestReadDecimalOfOtherTexts(t *testing.T) {
	for _, s := range []string{
		"", "-", "--", "--1", "-0", "-00", "00", "01", "-01", "+", "+0", "+1", "-+1", "+-1",
		" ", " 1", "1 ", "- 1", "1 2", "\t1", "1\n", "1\r", "1\x00", "1a", "a", "0x1", "0b1", "1_0", "1e3", "1.0", "1,0", ".",
		"1-", "1-2", "\x80", "1\xff", "\u0661", "\uff11", "\u22121", "\u00a01",
		"000000000000000001", "0000000000000000001", "-0000000000000000001", strings.Repeat("0", 18),
		"1234567890123456789", "-1234567890123456789", "9223372036854775808", "-9223372036854775809",
		"18446744073709551617", strings.Repeat("9", 1000),
	} {
		if n, ok := impl.ReadDecimal(s); n != 0 || ok {
			t.Errorf("ReadDecimal(%q) = %d, %v", s, n, ok)
		}
	}
}

func TestReadDecimalOfAllShortTexts(t *testing.T) {
	canonical := regexp.MustCompile(`^(0|-?[1-9][0-9]*)$`)
	everyText("-+019 ,\xb1", 5, func(s string) {
		n, ok := impl.ReadDecimal(s)
		if ok != canonical.MatchString(s) || ok && impl.Decimal(n) != s || !ok && n != 0 {
			t.Errorf("ReadDecimal(%q) = %d, %v", s, n, ok)
		}
	})
}

func TestSplitWords(t *testing.T) {
	for s, want := range map[string][]string{
		"": {}, " ": {}, "     ": {},
		"a": {"a"}, " a  bc ": {"a", "bc"}, "a b c": {"a", "b", "c"}, "   last": {"last"}, "first   ": {"first"},
		"a\tb\nc": {"a\tb\nc"}, "\t \n": {"\t", "\n"}, "a\u00a0b": {"a\u00a0b"}, "\u2003 \v": {"\u2003", "\v"},
		"\xff \x80\xa0": {"\xff", "\x80\xa0"}, "\u00fc -1,2": {"\u00fc", "-1,2"}, "\x00 \x00": {"\x00", "\x00"},
	} {
		if got := impl.SplitWords(s); !slices.Equal(got, want) {
			t.Errorf("SplitWords(%q) = %q, want %q", s, got, want)
		}
	}
	everyText("a \t\xa0", 6, func(s string) {
		want := slices.DeleteFunc(strings.Split(s, " "), func(word string) bool { return word == "" })
		if got := impl.SplitWords(s); !slices.Equal(got, want) {
			t.Errorf("SplitWords(%q) = %q, want %q", s, got, want)
		}
	})
}

func TestListText(t *testing.T) {
	const limit = "1000000000000"
	for _, c := range []struct {
		list []int64
		want string
	}{
		{nil, "-"}, {[]int64{}, "-"}, {[]int64{0}, "0"}, {[]int64{-1}, "-1"}, {[]int64{3, 0, -1}, "3,0,-1"}, {[]int64{7, 7}, "7,7"},
		{[]int64{impl.MaxValue, -impl.MaxValue}, limit + ",-" + limit},
		{[]int64{impl.MaxValue + 1}, ""}, {[]int64{-impl.MaxValue - 1}, ""},
		{[]int64{1, 2, impl.MaxValue + 1}, ""}, {[]int64{-impl.MaxValue - 1, 1, 2}, ""},
		{[]int64{math.MinInt64}, ""}, {[]int64{0, math.MaxInt64}, ""},
		{repeated(5, impl.MaxList), strings.Repeat("5,", impl.MaxList-1) + "5"},
		{repeated(5, impl.MaxList+1), ""}, {repeated(0, 1000), ""},
	} {
		if got := impl.ListText(c.list); got != c.want {
			t.Errorf("ListText(%v) = %q, want %q", c.list, got, c.want)
		}
	}
}

func TestReadListReadsBack(t *testing.T) {
	for _, list := range [][]int64{
		nil, {}, {0}, {-1}, {3, 0, -1}, {0, 0, 0}, {impl.MaxValue}, {-impl.MaxValue, 12, impl.MaxValue},
		repeated(-impl.MaxValue, impl.MaxList), repeated(0, impl.MaxList-1), repeated(0, impl.MaxList),
	} {
		if got, ok := impl.ReadList(impl.ListText(list)); !ok || !slices.Equal(got, list) {
			t.Errorf("ReadList(%q) = %v, %v", impl.ListText(list), got, ok)
		}
	}
}

func TestReadListOfOtherTexts(t *testing.T) {
	for _, s := range []string{
		"", " ", ",", ",,", "1,", ",1", "1,,2", "1, 2", "1 ,2", " 1", "1 ", "1;2", "1 2", "[1]", "1,2,", "1\n",
		"-,", ",-", "-,1", "1,-", "--", "- ", " -", "-0", "1,-0", "01", "1,01", "00", "+1", "1,+2", "a", "1,a", "\x80", "1,\xff",
		"1000000000001", "-1000000000001", "0,1000000000001", "999999999999999999", "1234567890123456789", "1,9223372036854775808",
		strings.Repeat("0,", impl.MaxList) + "0", strings.Repeat("0,", impl.MaxList), strings.Repeat(",", 100000), strings.Repeat("1,", 100000) + "1",
	} {
		if list, ok := impl.ReadList(s); list != nil || ok {
			t.Errorf("ReadList(%.40q) = %v, %v", s, list, ok)
		}
	}
}

func TestReadListOfAllShortTexts(t *testing.T) {
	canonical := regexp.MustCompile(`^(-|(0|-?[1-9][0-9]*)(,(0|-?[1-9][0-9]*))*)$`)
	everyText("-,+01 ", 6, func(s string) {
		list, ok := impl.ReadList(s)
		if ok != canonical.MatchString(s) || ok && impl.ListText(list) != s || !ok && list != nil {
			t.Errorf("ReadList(%q) = %v, %v", s, list, ok)
		}
	})
}

func TestCrc16KnownValues(t *testing.T) {
	for _, c := range []struct {
		s           string
		start, want int64
	}{
		{"123456789", impl.CrcStart, 0x29b1}, {"123456789", 0, 0x31c3}, {"123456789", 0x1d0f, 0xe5cc},
		{"A", impl.CrcStart, 0xb915}, {"", impl.CrcStart, 65535}, {"", 0, 0}, {"", 1, 1}, {"\x00", 0, 0}, {"\x01", 0, 4129}, {"\x80", 0, 0x9188},
		{"a", -1, 0}, {"a", 65536, 0}, {"", -1, 0}, {"", 65536, 0}, {"a", 65536 + 65535, 0}, {"a", math.MinInt64, 0}, {"a", math.MaxInt64, 0},
	} {
		if got := impl.Crc16(c.s, c.start); got != c.want {
			t.Errorf("Crc16(%q, %d) = %d, want %d", c.s, c.start, got, c.want)
		}
	}
}

// crcAsTold follows the document's sentence literally, in wide integers.
func crcAsTold(s string, start int64) int64 {
	check := start
	for i := range len(s) {
		check ^= int64(s[i]) * 256
		for range 8 {
			if check *= 2; check > 65535 {
				check = check%65536 ^ 4129
			}
		}
	}
	return check
}

func TestCrc16AsTold(t *testing.T) {
	text := ""
	for b := range 256 {
		text += string([]byte{byte(b * 37)})
		for _, start := range []int64{0, 1, 255, 256, 32767, 32768, 65534, 65535} {
			if got, want := impl.Crc16(text, start), crcAsTold(text, start); got != want {
				t.Fatalf("Crc16(%q, %d) = %d, want %d", text, start, got, want)
			}
		}
		half := len(text) / 2
		if got := impl.Crc16(text[half:], impl.Crc16(text[:half], impl.CrcStart)); got != impl.Crc16(text, impl.CrcStart) {
			t.Fatalf("Crc16 of two halves of %q is %d", text, got)
		}
	}
}
