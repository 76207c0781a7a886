package tests

import (
	"regexp"
	"slices"
	"strconv"
	"strings"
	"testing"

	"loop.example/g01013/impl"
)

// trackAsTold writes a path, valid or not, point by point.
func trackAsTold(path []impl.PathPoint) string {
	points := []string{}
	for _, x := range path {
		points = append(points, strconv.FormatInt(x.Distance, 10)+":"+strconv.FormatInt(x.Height, 10))
	}
	return strings.Join(points, " ")
}

func TestTextsOfPathsAreReadBack(t *testing.T) {
	for _, path := range goodTracks() {
		want := trackAsTold(path)
		if got := impl.PathText(path); got != want {
			t.Errorf("PathText(%v) = %q, want %q", path, got, want)
		}
		if got, ok := impl.ReadPath(want); !slices.Equal(got, path) || !ok {
			t.Errorf("ReadPath(%q) = %v, %v", want, got, ok)
		}
	}
	for _, path := range badTracks() {
		if got := impl.PathText(path); got != "" {
			t.Errorf("PathText(%.200v) = %q", path, got)
		}
		if got, ok := impl.ReadPath(trackAsTold(path)); got != nil || ok {
			t.Errorf("ReadPath(%.200q) = %v, %v", trackAsTold(path), got, ok)
		}
	}
}

func TestKnownTextsOfPaths(t *testing.T) {
	for text, path := range map[string][]impl.PathPoint{
		"0:1000 100:900 200:900": answeredTrack(), "0:0 1:0": trackOf(0, 0, 1, 0), "0:9000 20000:0": trackOf(0, 9000, 20000, 0), "0:7 1:5 30:6 400:0": trackOf(0, 7, 1, 5, 30, 6, 400, 0), "0:1000 100:950": trackOf(0, 1000, 100, 950),
	} {
		if got := impl.PathText(path); got != text {
			t.Errorf("PathText(%v) = %q, want %q", path, got, text)
		}
		if got, ok := impl.ReadPath(text); !slices.Equal(got, path) || !ok {
			t.Errorf("ReadPath(%q) = %v, %v", text, got, ok)
		}
	}
}

func TestReadPathOfOtherTexts(t *testing.T) {
	for _, s := range []string{
		"", " ", "-", ":", ": :", "0", "0 1", "0:5", "0:5 ", " 0:5", "0:5 1", "0:5 1:", "0:5 :4", "0: 1:4", ":5 1:4", "05 1:4", "0:5 14", "0:5  1:4", " 0:5 1:4", "0:5 1:4 ", "0:5 1:4  2:3", "0 :5 1:4", "0: 5 1:4", "0:5 1 :4", "0:5 1: 4", "  0:5 1:4", "0:5 1:4  ",
		"0:5:1 1:4", "0:5 1:4:2", "0:5 1:4:", "0:5 :1:4", "0::5 1:4", "0:5 1::4", "0:5:1:4", "0:5 1:4 2", "0:5 1:4 2:", "0:5,1:4", "0:5;1:4", "0:5\t1:4", "0:5\n1:4", "0:5 1:4\n", "0:5 1:4\x00", "\xff0:5 1:4", "\ufeff0:5 1:4", "0:5\u00a01:4", "0=5 1=4", "0,5 1,4", "0\uff1a5 1:4", "path 0:5 1:4",
		"00:5 1:4", "0:05 1:4", "0:5 01:4", "0:5 1:04", "0:5 1:00", "+0:5 1:4", "0:+5 1:4", "0:5 +1:4", "0:5 1:+4", "-0:5 1:4", "0:5 1:-0", "0:5 -1:4", "0:5 1:-4", "0:-5 1:-6", "0:5 1:\u22124", "0:5.0 1:4", "0:5 1e0:4", "0:5 0x1:4", "0:5 1:1_0", "a:5 1:4", "0:5 1:a", "0:5 --1:4", "0:5 1:\uff14",
		"1:5 2:4", "0:5 0:4", "0:5 1:4 1:3", "0:5 2:4 1:3", "0:5 1:6", "0:5 1:4 2:6", "0:9001 1:4", "0:9001 1:9001", "0:5 20001:4", "0:9000 1:9001",
		"18446744073709551616:5 1:4", "0:18446744073709551621 1:4", "0:5 18446744073709551617:4", "0:5 1:18446744073709551620", "0:5 9223372036854775808:4", "0:5 1:99999999999999999999", "0:5 1:-99999999999999999999",
		trackAsTold(evenTrack(25, 1, 1)), trackAsTold(evenTrack(24, 1, 1)) + " ", trackAsTold(evenTrack(24, 1, 1)) + " 99", trackAsTold(evenTrack(24, 1, 1)) + ":1", trackAsTold(evenTrack(1000, 1, 1)),
		strings.Repeat(" ", 100000), strings.Repeat(":", 100000), strings.Repeat("0:5 ", 100000), strings.Repeat("0", 100000) + ":5 1:4", "0:5 1:" + strings.Repeat("4", 100000), strings.Repeat("0:5 1:4", 10000),
	} {
		if path, ok := impl.ReadPath(s); path != nil || ok {
			t.Errorf("ReadPath(%.60q) = %v, %v", s, path, ok)
		}
	}
}

var pointText = regexp.MustCompile(`^(?:0|[1-9][0-9]{0,3}|1[0-9]{4}|20000):(?:0|[1-9][0-9]{0,2}|[1-8][0-9]{3}|9000)$`)

// isTrackText says by itself whether a text is that of a valid path.
func isTrackText(s string) bool {
	points := strings.Split(s, " ")
	first, last := int64(0), int64(-1)
	for k, point := range points {
		if !pointText.MatchString(point) {
			return false
		}
		parts := strings.Split(point, ":")
		distance, _ := strconv.ParseInt(parts[0], 10, 64)
		height, _ := strconv.ParseInt(parts[1], 10, 64)
		if k == 0 {
			first = height
		}
		if k == 0 && distance != 0 || distance <= last || height > first {
			return false
		}
		last = distance
	}
	return len(points) >= 2 && len(points) <= 24
}

func checkTrackText(t *testing.T, s string) {
	path, ok := impl.ReadPath(s)
	if ok != isTrackText(s) || ok && trackAsTold(path) != s || !ok && path != nil {
		t.Errorf("ReadPath(%q) = %v, %v", s, path, ok)
	}
}

func TestReadPathOfNearTexts(t *testing.T) {
	for _, s := range []string{"0:1000 100:900 200:900", "0:0 1:0", "0:9000 20000:8999", "0:9 1:9 2:9 10:0", "0:5", "0:50 1:51", "1:5 2:4", trackAsTold(evenTrack(24, 1, 1)), trackAsTold(evenTrack(25, 1, 1))} {
		nearTexts(s, func(s string) { checkTrackText(t, s) })
	}
}

func TestReadPathOfAllShortTexts(t *testing.T) {
	everyText("01: ", 7, func(s string) { checkTrackText(t, s) })
	everyText("029", 5, func(s string) {
		checkTrackText(t, "0:9000 "+s+":2")
		checkTrackText(t, "0:"+s+" 1:2")
		checkTrackText(t, "0:9000 1:"+s)
	})
}
