package tests

import (
	"math/big"
	"testing"

	"loop.example/g01013/impl"
)

// speedAsTold returns the root of the rounded square of a speed, with wide integers.
func speedAsTold(above int64) int64 {
	return new(big.Int).Sqrt(roundedQuotient(1962*above, 10)).Int64()
}

// fastestAsTold looks at each metre before a mass stops, and returns 0 if there is none.
func fastestAsTold(above []int64) int64 {
	end := int64(len(above))
	if stop := stopAsTold(above); stop > 0 {
		end = stop
	}
	fastest := int64(0)
	for distance := int64(1); distance < end; distance++ {
		if fastest == 0 || above[distance] > above[fastest] {
			fastest = distance
		}
	}
	return fastest
}

// speedsAt holds distances near the points of a path, and those near where it stops.
func speedsAt(path []impl.PathPoint, stop int64) []int64 {
	last := path[len(path)-1].Distance
	distances := []int64{}
	for _, x := range append(path, impl.PathPoint{Distance: stop}, impl.PathPoint{Distance: last / 2}) {
		for distance := x.Distance - 1; distance <= x.Distance+1; distance++ {
			if distance >= 0 && distance <= last {
				distances = append(distances, distance)
			}
		}
	}
	return distances
}

func TestSpeedAt(t *testing.T) {
	for _, path := range append(goodTracks(), mixedTracks(300)...) {
		grounds := groundsAsTold(path)
		for _, tangent := range tangentsOf(path) {
			above := clearancesAsTold(grounds, tangent)
			stop := stopAsTold(above)
			for _, distance := range speedsAt(path, stop) {
				want := int64(0)
				if above[distance] > 0 && (stop == 0 || distance < stop) {
					want = speedAsTold(above[distance])
				}
				if got, code := impl.SpeedAt(path, tangent, distance); got != want || code != impl.OK {
					t.Errorf("SpeedAt(%v, %d, %d) = %d, %d, want %d", path, tangent, distance, got, code, want)
				}
			}
		}
		last := path[len(path)-1].Distance
		for _, c := range [][2]int64{{0, 0}, {0, 1}, {-1, 0}, {3001, 0}, {3001, last}, {1, -1}, {1, last + 1}, {3000, last + 1}, {3000, -1}, {0, last + 1}} {
			got, code := impl.SpeedAt(path, c[0], c[1])
			checkCoded(t, "SpeedAt", got, code, 0, impl.ErrRange)
		}
	}
}

func TestKnownSpeeds(t *testing.T) {
	hills := trackOf(0, 9, 5, 0, 10, 8, 15, 0, 20, 9)
	for _, c := range []struct {
		path                    []impl.PathPoint
		tangent, distance, want int64
	}{
		{answeredTrack(), 600, 0, 0}, {answeredTrack(), 600, 1, 280}, {answeredTrack(), 600, 100, 2801}, {answeredTrack(), 600, 166, 280}, {answeredTrack(), 600, 167, 0}, {answeredTrack(), 600, 180, 0}, {answeredTrack(), 600, 200, 0},
		{answeredTrack(), 999, 1, 14}, {answeredTrack(), 999, 100, 140}, {answeredTrack(), 1000, 1, 0}, {answeredTrack(), 1000, 100, 0}, {answeredTrack(), 500, 199, 313}, {answeredTrack(), 500, 200, 0}, {answeredTrack(), 499, 200, 198},
		// The ground lies below the line again behind the place where the mass has stopped.
		{hills, 100, 5, 1291}, {hills, 100, 9, 577}, {hills, 100, 10, 0}, {hills, 100, 15, 0}, {hills, 99, 10, 44}, {hills, 99, 15, 1214}, {hills, 99, 20, 0}, {trackOf(0, 13, 10000, 0), 1, 5000, 0}, {trackOf(0, 15, 10000, 0), 1, 5000, 700},
		{trackOf(0, 9000, 1, 0), 1, 1, 42021}, {trackOf(0, 9000, 1, 0), 3000, 1, 42014}, {trackOf(0, 9000, 20000, 0), 1, 20000, 41974}, {trackOf(0, 9000, 20000, 0), 449, 20000, 1980}, {trackOf(0, 0, 1, 0), 1, 0, 0}, {trackOf(0, 0, 1, 0), 1, 1, 0},
		// One thousandth is a square of 196, and five are one of 981.
		{trackOf(0, 2, 2, 0), 999, 1, 14}, {trackOf(0, 2, 2, 0), 995, 1, 31}, {trackOf(0, 2, 2, 0), 997, 1, 24}, {trackOf(0, 2, 2, 0), 998, 1, 19},
	} {
		if got, code := impl.SpeedAt(c.path, c.tangent, c.distance); got != c.want || code != impl.OK {
			t.Errorf("SpeedAt(%v, %d, %d) = %d, %d, want %d", c.path, c.tangent, c.distance, got, code, c.want)
		}
	}
}

func checkFastest(t *testing.T, path []impl.PathPoint, tangent, want, wantSpeed int64) {
	t.Helper()
	if got, speed, code := impl.FastestAt(path, tangent); got != want || speed != wantSpeed || code != impl.OK {
		t.Errorf("FastestAt(%v, %d) = %d, %d, %d, want %d, %d", path, tangent, got, speed, code, want, wantSpeed)
	}
}

func TestFastestAt(t *testing.T) {
	for _, path := range append(goodTracks(), mixedTracks(2000)...) {
		grounds := groundsAsTold(path)
		for _, tangent := range tangentsOf(path) {
			above := clearancesAsTold(grounds, tangent)
			want := fastestAsTold(above)
			checkFastest(t, path, tangent, want, speedAsTold(above[want]))
		}
		for _, tangent := range append(otherNumbers(), -1, 0, 3001) {
			if at, speed, code := impl.FastestAt(path, tangent); at != 0 || speed != 0 || code != impl.ErrRange {
				t.Errorf("FastestAt(%v, %d) = %d, %d, %d", path, tangent, at, speed, code)
			}
		}
	}
}

func TestKnownFastest(t *testing.T) {
	hills := trackOf(0, 9, 5, 0, 10, 8, 15, 0, 20, 9)
	for _, c := range []struct {
		path                     []impl.PathPoint
		tangent, want, wantSpeed int64
	}{
		{answeredTrack(), 600, 100, 2801}, {answeredTrack(), 999, 100, 140}, {answeredTrack(), 1, 100, 4427},
		// A mass that stops at 1 metre is nowhere fast.
		{answeredTrack(), 1000, 0, 0}, {answeredTrack(), 3000, 0, 0}, {trackOf(0, 0, 1, 0), 1, 0, 0}, {trackOf(0, 9000, 20000, 9000), 1, 0, 0}, {trackOf(0, 13, 10000, 0), 1, 0, 0}, {evenTrack(24, 100, 50), 500, 0, 0},
		// One that does not stop may be fastest at the end.
		{trackOf(0, 9000, 1, 0), 1, 1, 42021}, {trackOf(0, 9000, 20000, 0), 449, 20000, 1980}, {trackOf(0, 9000, 20000, 0), 1, 20000, 41974}, {trackOf(0, 15, 10000, 0), 1, 9999, 990},
		// Over a leg that falls by its tangent, the line is as high all the way, and over one that falls a bit more or less, for some metres.
		{trackOf(0, 1000, 100, 900, 200, 850), 500, 100, 3132}, {trackOf(0, 1000, 100, 900, 200, 849), 500, 200, 3163}, {trackOf(0, 1000, 100, 900, 200, 851), 500, 100, 3132}, {trackOf(0, 2000, 1, 1999, 10001, 996), 100, 10000, 874}, {trackOf(0, 2000, 1, 1999, 10001, 999), 100, 1, 420}, {trackOf(0, 2000, 1, 1999, 10001, 998), 100, 9996, 610},
		// Only what comes before the stop counts, and of two hollows that are as deep below the line, the first one.
		{hills, 100, 5, 1291}, {hills, 99, 5, 1291}, {trackOf(0, 9, 5, 0, 10, 8, 15, 0, 20, 9), 101, 5, 1291}, {trackOf(0, 90, 10, 50, 20, 90, 30, 0), 1, 10, 2801}, {trackOf(0, 90, 10, 50, 20, 80, 30, 30), 500, 10, 2620}, {trackOf(0, 90, 10, 50, 20, 75, 30, 40), 500, 10, 2620}, {trackOf(0, 90, 10, 50, 20, 75, 30, 39), 500, 30, 2657},
	} {
		checkFastest(t, c.path, c.tangent, c.want, c.wantSpeed)
	}
}
