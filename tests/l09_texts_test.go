package tests

import (
	"regexp"
	"strconv"
	"strings"
	"testing"

	"loop.example/g01013/impl"
)

// gridAsTold writes a grid, valid or not, number by number.
func gridAsTold(g impl.Grid) string {
	heights := []string{}
	for _, height := range g.Heights {
		heights = append(heights, strconv.FormatInt(height, 10))
	}
	if len(heights) == 0 {
		heights = append(heights, "-")
	}
	return strconv.FormatInt(g.Rows, 10) + "," + strconv.FormatInt(g.Columns, 10) + "," + strconv.FormatInt(g.Size, 10) + ":" + strings.Join(heights, ",")
}

func TestGridTextsAreReadBack(t *testing.T) {
	for _, g := range goodGrids() {
		want := gridAsTold(g)
		if got := impl.GridText(g); got != want {
			t.Errorf("GridText(%v) = %q, want %q", g, got, want)
		}
		if got, ok := impl.ReadGrid(want); !ok || !gridsEqual(got, g) {
			t.Errorf("ReadGrid(%q) = %v, %v", want, got, ok)
		}
	}
	for _, g := range badGrids() {
		if got := impl.GridText(g); got != "" {
			t.Errorf("GridText(%v) = %q", g, got)
		}
		if got, ok := impl.ReadGrid(gridAsTold(g)); !gridsEqual(got, impl.Grid{}) || ok {
			t.Errorf("ReadGrid(%.80q) = %v, %v", gridAsTold(g), got, ok)
		}
	}
}

func TestKnownGridTexts(t *testing.T) {
	for text, g := range map[string]impl.Grid{
		"1,1,1:0": gridOf(1, 1, 1, 0), "1,1,100:5000": gridOf(1, 1, 100, 5000), "2,1,10:7,3": gridOf(2, 1, 10, 7, 3), "1,2,10:7,3": gridOf(1, 2, 10, 7, 3), "2,3,4:1,20,300,4000,5,0": gridOf(2, 3, 4, 1, 20, 300, 4000, 5, 0), "3,2,4:1,20,300,4000,5,0": gridOf(3, 2, 4, 1, 20, 300, 4000, 5, 0),
		"8,1,99:0,1,2,3,4,5,6,7": gridOf(8, 1, 99, 0, 1, 2, 3, 4, 5, 6, 7), "8,8,10:" + strings.Repeat("0,", 63) + "5000": gridOf(8, 8, 10, append(repeated(0, 63), 5000)...),
	} {
		if got := impl.GridText(g); got != text {
			t.Errorf("GridText(%v) = %q, want %q", g, got, text)
		}
		if got, ok := impl.ReadGrid(text); !ok || !gridsEqual(got, g) {
			t.Errorf("ReadGrid(%q) = %v, %v", text, got, ok)
		}
	}
}

func TestReadGridOfOtherTexts(t *testing.T) {
	for _, s := range []string{
		"", " ", ":", "-", ",", "-:", ":-", "-:-", "1", "1,1,1", "1,1,1:", ":0", "1:0", "1,1:0", "1,1,1,1:0", "1,1,1,0", ",1,1:0", "1,,1:0", "1,1,:0", "1,1,1,:0", ",,:0", "1,1,1:-", "1,1,1:,", "1,1,1:0,", "1,1,1:,0", "1,1,1:0,0", "1,1,-:0", "1,2,1:0,,0", "1,2,1:0", "2,1,1:0",
		" 1,1,1:0", "1,1,1:0 ", "1,1,1 :0", "1,1,1: 0", "1, 1,1:0", "1 ,1,1:0", "1,1,1:0\n", "1,1,1:0\x00", "\xff1,1,1:0", "1,1,1;0", "1,1,1=0", "1,1,1 0", "1x1x1:0", "1;1;1:0", "1,1,1::0", "1,1,1:0:", ":1,1,1:0", "1,1,1:0:0", "1,2,1:0:0", "1:1,1:0", "1,1:1:0", "1,2,1:0;0", "1,2,1:0, 0", "1,1,1\uff1a0",
		"01,1,1:0", "1,01,1:0", "1,1,01:0", "1,1,1:00", "1,1,1:01", "1,2,1:0,00", "+1,1,1:0", "1,+1,1:0", "1,1,+1:0", "1,1,1:+0", "1,1,1:-0", "-1,-1,1:0", "-1,1,1:0", "1,-1,1:0", "1,1,-1:0", "1,1,1:-1", "1,1,1:--1", "1,1,1:\u22121", "1,1,1:5001", "1,1,1:1e3", "1,1,1:0x1", "1,1,1:1_0", "1,1,1:0.0", "1,1,1:a", "a,1,1:0",
		"0,0,1:-", "0,0,1:0", "0,1,1:-", "1,0,1:-", "0,1,1:0", "1,0,1:0", "1,1,0:0", "1,1,101:0", "9,1,1:0,0,0,0,0,0,0,0,0", "1,9,1:0,0,0,0,0,0,0,0,0", "2,2,1:0,0,0", "2,2,1:0,0,0,0,0", "16,4,1:" + strings.Repeat("0,", 63) + "0",
		"18446744073709551617,1,1:0", "1,18446744073709551617,1:0", "1,1,18446744073709551617:0", "1,1,1:18446744073709551616", "1,1,1:1000000000001", "1,1,1000000000001:0", "8,8,1:" + strings.Repeat("0,", 64) + "0", "8,8,1:" + strings.Repeat("0,", 62) + "0", "8,8,1:" + strings.Repeat("0,", 64), "8,8,1:" + strings.Repeat("0,", 100000) + "0",
		strings.Repeat(":", 100000), strings.Repeat("1,", 100000) + "1:0", strings.Repeat("1,1,1:0", 10000), "1,1,1:" + strings.Repeat("0", 100000), strings.Repeat("1", 100000) + ",1,1:0", strings.Repeat(" ", 100000),
	} {
		if g, ok := impl.ReadGrid(s); !gridsEqual(g, impl.Grid{}) || ok {
			t.Errorf("ReadGrid(%.60q) = %v, %v", s, g, ok)
		}
	}
}

var gridText = regexp.MustCompile(`^([1-8]),([1-8]),(?:[1-9][0-9]?|100):((?:0|[1-9][0-9]{0,2}|[1-4][0-9]{3}|5000)(?:,(?:0|[1-9][0-9]{0,2}|[1-4][0-9]{3}|5000))*)$`)

// isGridText says by itself whether a text is that of a valid grid.
func isGridText(s string) bool {
	parts := gridText.FindStringSubmatch(s)
	return parts != nil && strings.Count(parts[3], ",")+1 == int(parts[1][0]-'0')*int(parts[2][0]-'0')
}

func checkGridText(t *testing.T, s string) {
	g, ok := impl.ReadGrid(s)
	if ok != isGridText(s) || ok && gridAsTold(g) != s || !ok && !gridsEqual(g, impl.Grid{}) {
		t.Errorf("ReadGrid(%q) = %v, %v", s, g, ok)
	}
}

func TestReadGridOfNearTexts(t *testing.T) {
	for _, s := range []string{"1,1,1:0", "2,1,10:1000,0", "3,2,99:1,20,300,4000,4999,5000", "1,3,100:5000,499,100", "2,2,9:-1,0,0,0", "8,1,5:1,2,3,4,5,6,7,8", "1,9,5:1,2,3,4,5,6,7,8"} {
		nearTexts(s, func(s string) { checkGridText(t, s) })
	}
}

func TestReadGridOfAllShortTexts(t *testing.T) {
	everyText("12:,0", 7, func(s string) { checkGridText(t, s) })
	everyText("13:,-", 5, func(s string) { checkGridText(t, "1,1,"+s) })
	everyText("015,", 6, func(s string) { checkGridText(t, "1,2,1:"+s) })
}
