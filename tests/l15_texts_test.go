package tests

import (
	"regexp"
	"slices"
	"strconv"
	"strings"
	"testing"

	"loop.example/g01013/impl"
)

// assetAsTold writes an asset, as stated or not, number by number.
func assetAsTold(x impl.Asset) string {
	cells := []string{}
	for _, cell := range x.Cells {
		cells = append(cells, strconv.FormatInt(cell, 10))
	}
	return x.Id + " " + strconv.FormatInt(x.Worth, 10) + " " + strings.Join(cells, ",")
}

// assetsEqual reports whether two assets are deeply equal; a nil slice and an empty one are equivalent.
func assetsEqual(x, y impl.Asset) bool {
	return x.Id == y.Id && x.Worth == y.Worth && slices.Equal(x.Cells, y.Cells)
}

func isZeroAsset(x impl.Asset) bool { return x.Id == "" && x.Cells == nil && x.Worth == 0 }

func checkNoAssetText(t *testing.T, s string) {
	t.Helper()
	if x, ok := impl.ReadAsset(s); !isZeroAsset(x) || ok {
		t.Errorf("ReadAsset(%.60q) = %.200v, %v", s, x, ok)
	}
}

// largestGrid has all cells that an asset can be in.
func largestGrid() impl.Grid { return flatGrid(impl.MaxSide, impl.MaxSide, 0) }

func TestTextsOfAssetsAreReadBack(t *testing.T) {
	for _, g := range []impl.Grid{answeredGrid(), flatGrid(1, 1, 0), largestGrid()} {
		for _, x := range slices.Concat(goodAssetsOf(g)...) {
			want := assetAsTold(x)
			if got := impl.AssetText(x); got != want {
				t.Errorf("AssetText(%v) = %q, want %q", x, got, want)
			}
			if got, ok := impl.ReadAsset(want); !assetsEqual(got, x) || !ok {
				t.Errorf("ReadAsset(%q) = %v, %v", want, got, ok)
			}
		}
	}
	for _, x := range badAssetsOf(largestGrid()) {
		if got := impl.AssetText(x); got != "" {
			t.Errorf("AssetText(%.200v) = %q", x, got)
		}
		checkNoAssetText(t, assetAsTold(x))
	}
}

// TestTextsOfEachSetOfCells has each set of few cells near the ends of the largest grid.
func TestTextsOfEachSetOfCells(t *testing.T) {
	for a := int64(-2); a <= 66; a++ {
		for b := int64(-2); b <= 66; b++ {
			x := assetOf("a", 1, a, b)
			want := ""
			if a >= 0 && a < b && b <= 63 {
				want = "a 1 " + strconv.FormatInt(a, 10) + "," + strconv.FormatInt(b, 10)
			}
			if got := impl.AssetText(x); got != want {
				t.Errorf("AssetText(%v) = %q, want %q", x, got, want)
			}
			got, ok := impl.ReadAsset(assetAsTold(x))
			if ok != (want != "") || ok && !assetsEqual(got, x) || !ok && !isZeroAsset(got) {
				t.Errorf("ReadAsset(%q) = %v, %v", assetAsTold(x), got, ok)
			}
		}
	}
}

func TestKnownTextsOfAssets(t *testing.T) {
	all := "0,1,2,3,4,5,6,7,8,9,10,11,12,13,14,15,16,17,18,19,20,21,22,23,24,25,26,27,28,29,30,31,32,33,34,35,36,37,38,39,40,41,42,43,44,45,46,47,48,49,50,51,52,53,54,55,56,57,58,59,60,61,62,63"
	for text, x := range map[string]impl.Asset{
		"road 100 3,4": assetOf("road", 100, 3, 4), "a 0 0": assetOf("a", 0, 0), "shed 40 3": assetOf("shed", 40, 3), "z9 1000000 63": assetOf("z9", 1000000, 63), "lift2 999999 0,9,10,63": assetOf("lift2", 999999, 0, 9, 10, 63), "abcdefghij 1 " + all: assetOf("abcdefghij", 1, cellsOf(largestGrid())...),
	} {
		if got := impl.AssetText(x); got != text {
			t.Errorf("AssetText(%v) = %q, want %q", x, got, text)
		}
		if got, ok := impl.ReadAsset(text); !assetsEqual(got, x) || !ok {
			t.Errorf("ReadAsset(%q) = %v, %v", text, got, ok)
		}
	}
}

func TestReadAssetOfOtherTexts(t *testing.T) {
	for _, s := range []string{
		"", " ", "  ", "-", "- - -", "a", "a ", " a", "a 0", "a 0 ", "a  0", " 0 0", "0 0", "a 0 -", "a - 0", "- 0 0", "a - -", "a 0 ,", "a 0 ,0", "a 0 0,", "a 0 0,,1", "a , 0", "a 0 0 0", "a 0 0 1", "a 0 0,1 2", "a a 0 0", "a 0 0 a", "a 0,0", "a,0,0", "a,0 0", "a 0 0;1", "a 0 0 ,1", "a 0 0, 1", "a:0:0", "a 0:0", "a 0 0:1",
		" a 0 0", "a 0 0 ", "a  0 0", "a 0  0", "a 0 0  ", "  a 0 0", "a\t0 0", "a 0\t0", "a 0 0\t", "a 0 0\n", "\na 0 0", "a 0 0\x00", "\x00a 0 0", "\xffa 0 0", "\ufeffa 0 0", "a\u00a00 0", "a 0\u00a00", "a\u20030 0", "a 0 0\r\n",
		"A 0 0", "Road 0 0", "roAd 0 0", "1a 0 0", "0 0 0", "9 0 0", "a-b 0 0", "a_b 0 0", "a.b 0 0", "r\u00f6ad 0 0", "\u0430 0 0", "abcdefghijk 0 0", "a1234567890 0 0", "{ 0 0", "` 0 0", strings.Repeat("a", 100000) + " 0 0",
		"a 00 0", "a 01 0", "a 0 00", "a 0 01", "a 0 0,01", "a 0 00,1", "a +0 0", "a +1 0", "a 0 +0", "a 0 +1", "a 0 0,+1", "a -0 0", "a 0 -0", "a -1 0", "a 0 -1", "a 0 -1,0", "a 0 0,-1", "a 0 0,-0", "a --1 0", "a \u22121 0", "a \uff11 0", "a 0 \uff11", "a 1.0 0", "a 1e0 0", "a 0x1 0", "a 1_0 0", "a 0 1_0", "a 0 0x1", "a b 0", "a 0 b", "a 0 0,b",
		"a 1000001 0", "a 1000002 0", "a 10000000 0", "a -1000000 0", "a 1000000000000 0", "a 1000000000001 0", "a 999999999999999999 0", "a 1000000000000000000 0", "a 9223372036854775807 0", "a 9223372036854775808 0", "a 18446744073709551616 0", "a 18446744073709551617 0", "a -9223372036854775808 0", "a 99999999999999999999 0", "a " + strings.Repeat("0", 100000) + " 0", "a " + strings.Repeat("1", 100000) + " 0",
		"a 0 64", "a 0 65", "a 0 100", "a 0 0,64", "a 0 63,64", "a 0 18446744073709551616", "a 0 18446744073709551617", "a 0 0,18446744073709551617", "a 0 9223372036854775808", "a 0 -9223372036854775808", "a 0 1000000000000", "a 0 1000000000001", "a 0 99999999999999999999", "a 0 0,99999999999999999999",
		"a 0 0,0", "a 0 1,1", "a 0 63,63", "a 0 1,0", "a 0 4,3", "a 0 0,1,1", "a 0 0,2,1", "a 0 1,0,2", "a 0 0,1,0", "a 0 10,9", "a 0 63,0",
		"a 0 " + strings.TrimSuffix(strings.Repeat("0,", 64), ","), "a 0 " + strings.TrimSuffix(strings.Repeat("0,", 65), ","), "a 0 " + strings.Repeat("0,", 100000), assetAsTold(assetOf("a", 0, cellsOf(largestGrid())...)) + ",64", assetAsTold(assetOf("a", 0, cellsOf(largestGrid())...)) + ",63", "a 0 0," + assetAsTold(assetOf("a", 0, cellsOf(largestGrid())...))[4:],
		strings.Repeat(" ", 100000), strings.Repeat("a 0 0 ", 10000), strings.Repeat("a 0 0", 10000), "a 0 0" + strings.Repeat(" ", 100000), "a" + strings.Repeat(" 0", 100000),
	} {
		checkNoAssetText(t, s)
	}
}

var assetText = regexp.MustCompile(`^[a-z][a-z0-9]{0,9} (?:0|[1-9][0-9]{0,5}|1000000) ((?:[0-9]|[1-5][0-9]|6[0-3])(?:,(?:[0-9]|[1-5][0-9]|6[0-3]))*)$`)

// isAssetText says by itself whether a text is that of an asset.
func isAssetText(s string) bool {
	parts := assetText.FindStringSubmatch(s)
	if parts == nil {
		return false
	}
	last := -1
	for _, text := range strings.Split(parts[1], ",") {
		cell, _ := strconv.Atoi(text)
		if cell <= last {
			return false
		}
		last = cell
	}
	return true
}

func checkAssetText(t *testing.T, s string) {
	t.Helper()
	x, ok := impl.ReadAsset(s)
	if ok != isAssetText(s) || ok && (assetAsTold(x) != s || impl.AssetText(x) != s) || !ok && !isZeroAsset(x) {
		t.Errorf("ReadAsset(%q) = %v, %v", s, x, ok)
	}
}

func TestReadAssetOfNearTexts(t *testing.T) {
	for _, s := range []string{"road 100 3,4", "a 0 0", "zzzzzzzzzz 1000000 63", "z9 999999 0,9,10,62", "b 1000001 5", "c 1 5,5", "d 1 64", "e 1", "abcdefghi 10000 7,8,9", assetAsTold(assetOf("all", 5, cellsOf(largestGrid())...))} {
		nearTexts(s, func(s string) { checkAssetText(t, s) })
	}
}

func TestReadAssetOfAllShortTexts(t *testing.T) {
	everyText("a01 ,", 7, func(s string) { checkAssetText(t, s) })
	everyText("0136,-", 6, func(s string) {
		checkAssetText(t, "a 5 "+s)
		checkAssetText(t, "a "+s+" 5")
	})
}
