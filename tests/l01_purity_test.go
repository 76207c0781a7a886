package tests

import (
	"math"
	"reflect"
	"slices"
	"strings"
	"testing"

	"loop.example/g01013/impl"
)

// Each function has exactly the type that chapter 1 gives.
var (
	_ func(int64) string                            = impl.CodeName
	_ func(string) bool                             = impl.IsName
	_ func(int64) string                            = impl.Decimal
	_ func(string) (int64, bool)                    = impl.ReadDecimal
	_ func(string) []string                         = impl.SplitWords
	_ func([]int64) string                          = impl.ListText
	_ func(string) ([]int64, bool)                  = impl.ReadList
	_ func(string, int64) int64                     = impl.Crc16
	_ func(int64) int64                             = impl.RootOf
	_ func(int64, int64) int64                      = impl.DivRound
	_ func(int64, int64, int64, int64, int64) int64 = impl.Blend
)

// allBytes has each byte once, those above 127 among them.
func allBytes() string {
	list := make([]byte, 256)
	for i := range list {
		list[i] = byte(i)
	}
	return string(list)
}

func oddTexts() []string {
	return []string{
		"", " ", "-", ",", "\x00", "\x80", "\xff\xfe", "\u00fc\u2003", allBytes(), "1,2,3", "word  word",
		strings.Repeat(" ", 100000), strings.Repeat("a", 100000), strings.Repeat("1", 100000), strings.Repeat("1,", 100000),
		strings.Repeat("-", 100000), strings.Repeat("\xf0", 100000), strings.Repeat("a ", 100000),
	}
}

func oddNumbers() []int64 {
	return []int64{
		math.MinInt64, math.MinInt64 + 1, -impl.MaxValue - 1, -impl.MaxValue, -1000001, -1000000, -1, 0, 1, 2,
		1000000, 1000001, impl.MaxValue, impl.MaxValue + 1, math.MaxInt64 - 1, math.MaxInt64,
	}
}

func oddLists() [][]int64 {
	return [][]int64{nil, {}, {0}, oddNumbers(), {3, 0, -1}, repeated(1, impl.MaxList), repeated(1, impl.MaxList+1), repeated(-1, 100000)}
}

// textResults holds the results of all functions of a text.
func textResults(s string) []any {
	n, isNumber := impl.ReadDecimal(s)
	list, isList := impl.ReadList(s)
	results := []any{impl.IsName(s), n, isNumber, impl.SplitWords(s), list, isList}
	for _, start := range []int64{math.MinInt64, -1, 0, impl.CrcStart, impl.CrcStart + 1, math.MaxInt64} {
		results = append(results, impl.Crc16(s, start))
	}
	return results
}

// numberResults holds the results of all functions of numbers.
func numberResults(a, b int64) []any {
	return []any{
		impl.CodeName(a), impl.Decimal(a), impl.RootOf(a), impl.DivRound(a, b),
		impl.Blend(a, b, b, a, a), impl.Blend(0, 1, 4, 9, a), impl.Blend(-1, a, 1, b, 0), impl.Blend(a, 3, b, 8, 5), impl.Blend(a, a, b, b, b),
	}
}

func TestBasicsReturnEqualResultsForTexts(t *testing.T) {
	for _, s := range oddTexts() {
		if first, second := textResults(s), textResults(strings.Clone(s)); !reflect.DeepEqual(first, second) {
			t.Errorf("%.20q: %v, then %v", s, first, second)
		}
	}
}

func TestBasicsReturnEqualResultsForNumbers(t *testing.T) {
	for _, a := range oddNumbers() {
		for _, b := range oddNumbers() {
			if first, second := numberResults(a, b), numberResults(a, b); !reflect.DeepEqual(first, second) {
				t.Errorf("%d and %d: %v, then %v", a, b, first, second)
			}
		}
	}
}

func TestListTextLeavesItsList(t *testing.T) {
	for _, list := range oddLists() {
		// Spare numbers behind the list show a change of its unused capacity.
		whole := append(slices.Clone(list), 41, 42, 43)
		part, before := whole[:len(list)], slices.Clone(whole)
		first, second := impl.ListText(part), impl.ListText(slices.Clone(list))
		if first != second {
			t.Errorf("ListText returned %.40q, then %.40q", first, second)
		}
		if !slices.Equal(whole, before) {
			t.Errorf("ListText changed a list of %d numbers", len(list))
		}
	}
}

func TestReadResultsAreNewMemory(t *testing.T) {
	for _, s := range []string{"-", "7", "3,0,-1"} {
		first, _ := impl.ReadList(s)
		second, _ := impl.ReadList(s)
		want := slices.Clone(second)
		for i := range first {
			first[i] = 99
		}
		_ = append(first, 99)
		if !slices.Equal(second, want) {
			t.Errorf("two results of ReadList(%q) share memory", s)
		}
	}
	words, again := impl.SplitWords("a bc"), impl.SplitWords("a bc")
	words[0], words[1] = "x", "y"
	if !slices.Equal(again, []string{"a", "bc"}) {
		t.Errorf("two results of SplitWords share memory")
	}
}
