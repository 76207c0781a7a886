package tests

import (
	"testing"

	"loop.example/g01013/impl"
)

// clearancesAsTold holds how high the line is above the ground at each distance.
func clearancesAsTold(grounds []int64, tangent int64) []int64 {
	above := []int64{}
	for distance, height := range grounds {
		above = append(above, grounds[0]-tangent*int64(distance)-height)
	}
	return above
}

// stopAsTold goes along a path metre by metre until the ground is not below the line, and returns 0 if that is nowhere so.
func stopAsTold(above []int64) int64 {
	for distance, height := range above {
		if distance > 0 && height <= 0 {
			return int64(distance)
		}
	}
	return 0
}

// tangentAsTold returns the least tangent with which the line goes down to the ground at one of the distances from 1 on.
func tangentAsTold(grounds []int64, last int64) int64 {
	least := int64(3001)
	for distance := int64(1); distance <= last; distance++ {
		needed := (grounds[0] - grounds[distance] + distance - 1) / distance
		least = min(least, max(1, needed))
	}
	return least
}

// tangentsOf holds tangents near those that a path falls by, and others.
func tangentsOf(path []impl.PathPoint) []int64 {
	tangents := someTangents()
	for k, to := range path[1:] {
		leg := 1000 * (path[k].Height - to.Height) / (to.Distance - path[k].Distance)
		whole := 1000 * (path[0].Height - to.Height) / to.Distance
		for _, tangent := range []int64{leg - 1, leg, leg + 1, whole, whole + 1} {
			if tangent >= 1 && tangent <= 3000 {
				tangents = append(tangents, tangent)
			}
		}
	}
	return tangents
}

func checkStop(t *testing.T, path []impl.PathPoint, tangent, want int64) {
	t.Helper()
	wanted := int64(impl.OK)
	if want == 0 {
		wanted = impl.ErrNotFound
	}
	if got, code := impl.StopOf(path, tangent); got != want || code != wanted {
		t.Errorf("StopOf(%v, %d) = %d, %d, want %d, %d", path, tangent, got, code, want, wanted)
	}
}

func TestStopOf(t *testing.T) {
	for _, path := range append(goodTracks(), mixedTracks(2000)...) {
		grounds := groundsAsTold(path)
		for _, tangent := range tangentsOf(path) {
			checkStop(t, path, tangent, stopAsTold(clearancesAsTold(grounds, tangent)))
		}
		for _, tangent := range append(otherNumbers(), -1, 0, 3001, 3002) {
			got, code := impl.StopOf(path, tangent)
			checkCoded(t, "StopOf", got, code, 0, impl.ErrRange)
		}
	}
}

func TestKnownStops(t *testing.T) {
	// With the tangent 1, the ground of the first path is just at the line after 501 metres, and that of the second one is one thousandth below it after 500.
	just, below := trackOf(0, 1, 2, 0, 1002, 1), trackOf(0, 1, 1, 0, 1001, 1)
	for _, c := range []struct {
		path          []impl.PathPoint
		tangent, want int64
	}{
		{answeredTrack(), 600, 167}, {answeredTrack(), 100, 0}, {answeredTrack(), 999, 101}, {answeredTrack(), 800, 125}, {answeredTrack(), 801, 125}, {answeredTrack(), 799, 126}, {answeredTrack(), 3000, 1},
		// A path that falls evenly by its tangent stops at once with it.
		{answeredTrack(), 1000, 1}, {answeredTrack(), 1001, 1}, {trackOf(0, 9000, 20000, 0), 450, 1}, {trackOf(0, 9000, 20000, 0), 449, 0}, {trackOf(0, 9000, 3000, 0), 3000, 1}, {trackOf(0, 9000, 3000, 0), 2999, 0}, {evenTrack(24, 100, 50), 500, 1}, {evenTrack(24, 100, 50), 499, 0},
		// The line meets the ground just at the last distance, or is above it up to there.
		{answeredTrack(), 500, 200}, {answeredTrack(), 499, 0}, {answeredTrack(), 501, 200}, {answeredTrack(), 502, 200}, {answeredTrack(), 503, 199}, {trackOf(0, 2, 1, 0, 2, 0), 1000, 2}, {trackOf(0, 2, 1, 0, 2, 0), 999, 0}, {trackOf(0, 2, 1, 0, 2, 0), 2000, 1}, {trackOf(0, 2, 1, 0, 2, 0), 1999, 2},
		{just, 1, 501}, {below, 1, 501}, {below[:2], 1, 0}, {just[:2], 500, 1}, {just[:2], 499, 0},
		// A level path stops everything, and one that is too steep stops nothing.
		{trackOf(0, 0, 1, 0), 1, 1}, {trackOf(0, 9000, 20000, 9000), 1, 1}, {trackOf(0, 9000, 1, 0), 3000, 0}, {trackOf(0, 9000, 100, 8699), 3000, 0}, {trackOf(0, 9000, 100, 8700), 3000, 1},
		// A ground that falls by 1.3 thousandths a metre is rounded up to the line after the first one, and lies below it from the second one on.
		{trackOf(0, 13, 10000, 0), 1, 1}, {trackOf(0, 15, 10000, 0), 1, 0}, {trackOf(0, 14, 10000, 0), 1, 1}, {trackOf(0, 14, 10000, 0), 2, 1},
		// Behind a hollow, a path rises to the line and falls away from it again.
		{trackOf(0, 9, 1, 0, 2, 9, 3, 0), 1, 2}, {trackOf(0, 9, 1, 0, 2, 8, 3, 0), 500, 2}, {trackOf(0, 9, 1, 0, 2, 8, 3, 0), 499, 0}, {trackOf(0, 9, 5, 0, 10, 8, 15, 0, 20, 9), 99, 19}, {trackOf(0, 9, 5, 0, 10, 8, 15, 0, 20, 7), 99, 0}, {trackOf(0, 9, 5, 0, 10, 8, 15, 0, 20, 9), 100, 10},
	} {
		checkStop(t, c.path, c.tangent, c.want)
	}
}

// TestGroundIsNotBelowTheLineWhereAMassStops is the promise of chapter 14 by its own functions: at the distance returned, and
// at none before it, the ground is not below the line.
func TestGroundIsNotBelowTheLineWhereAMassStops(t *testing.T) {
	for _, path := range append(goodTracks(), mixedTracks(300)...) {
		for _, tangent := range tangentsOf(path) {
			stop, code := impl.StopOf(path, tangent)
			if code != impl.OK {
				stop = path[len(path)-1].Distance + 1
			}
			for _, distance := range []int64{1, 2, stop / 2, stop - 2, stop - 1, stop} {
				if distance < 1 || distance > stop || distance > path[len(path)-1].Distance {
					continue
				}
				ground, _ := impl.GroundAt(path, distance)
				if line, _ := impl.LineAt(path, tangent, distance); (ground >= line) != (distance == stop) {
					t.Errorf("%v stops at %d with %d: the ground is at %d and the line at %d after %d", path, stop, tangent, ground, line, distance)
				}
			}
		}
	}
}

func TestSteeperLinesStopNoLater(t *testing.T) {
	for _, path := range append(goodTracks(), mixedTracks(200)...) {
		last := path[len(path)-1].Distance + 1
		for tangent := int64(1); tangent <= 3000; tangent++ {
			stop, code := impl.StopOf(path, tangent)
			if code != impl.OK {
				stop = path[len(path)-1].Distance + 1
			}
			if stop > last || stop < 1 {
				t.Errorf("%v stops at %d with %d, and at %d with a line that is less steep", path, stop, tangent, last)
			}
			last = stop
		}
	}
}

func checkTangentFor(t *testing.T, path []impl.PathPoint, distance, want int64) {
	t.Helper()
	wanted := int64(impl.OK)
	if want == 0 {
		wanted = impl.ErrNotFound
	}
	if got, code := impl.TangentFor(path, distance); got != want || code != wanted {
		t.Errorf("TangentFor(%v, %d) = %d, %d, want %d, %d", path, distance, got, code, want, wanted)
	}
}

func TestTangentFor(t *testing.T) {
	for _, path := range append(goodTracks(), mixedTracks(500)...) {
		grounds := groundsAsTold(path)
		last := path[len(path)-1].Distance
		for _, distance := range []int64{0, 1, 2, 3, last / 3, last / 2, last - 1, last} {
			if distance > last {
				continue
			}
			want := tangentAsTold(grounds, distance)
			if want > 3000 {
				want = 0
			}
			checkTangentFor(t, path, distance, want)
		}
		for _, distance := range append(otherNumbers(), -1, last+1, last+2) {
			got, code := impl.TangentFor(path, distance)
			checkCoded(t, "TangentFor", got, code, 0, impl.ErrRange)
		}
	}
}

func TestKnownTangentsForStops(t *testing.T) {
	for _, c := range []struct {
		path           []impl.PathPoint
		distance, want int64
	}{
		{answeredTrack(), 0, 0}, {answeredTrack(), 1, 1000}, {answeredTrack(), 100, 1000}, {answeredTrack(), 101, 991}, {answeredTrack(), 125, 800}, {answeredTrack(), 167, 599}, {answeredTrack(), 166, 603}, {answeredTrack(), 199, 503}, {answeredTrack(), 200, 500},
		// The least tangent is 1, also where the ground never falls.
		{trackOf(0, 0, 1, 0), 0, 0}, {trackOf(0, 0, 1, 0), 1, 1}, {trackOf(0, 9000, 20000, 9000), 20000, 1}, {trackOf(0, 9000, 20000, 9000), 1, 1}, {trackOf(0, 9, 1, 0, 2, 9), 1, 0}, {trackOf(0, 9, 1, 0, 2, 9), 2, 1},
		// No tangent is as steep as this, or just the greatest one is.
		{trackOf(0, 9000, 1, 0), 1, 0}, {trackOf(0, 9000, 2, 8994), 2, 3000}, {trackOf(0, 9000, 2, 8993), 2, 0}, {trackOf(0, 9000, 1000, 5999), 1000, 0}, {trackOf(0, 9000, 1000, 6000), 1000, 3000}, {trackOf(0, 9000, 1000, 6001), 1000, 2999}, {trackOf(0, 9, 1, 0, 2, 2, 4, 2), 2, 0}, {trackOf(0, 9, 1, 0, 2, 3, 4, 3), 2, 3000}, {trackOf(0, 9, 1, 0, 2, 2, 4, 2), 4, 1750}, {trackOf(0, 9, 1, 0, 2, 2, 4, 2), 3, 2334},
		// The ground may meet the line before the distance asked for.
		{trackOf(0, 9, 5, 0, 10, 8, 15, 0, 20, 9), 9, 289}, {trackOf(0, 9, 5, 0, 10, 8, 15, 0, 20, 9), 10, 100}, {trackOf(0, 9, 5, 0, 10, 8, 15, 0, 20, 9), 15, 100}, {trackOf(0, 9, 5, 0, 10, 8, 15, 0, 20, 9), 19, 95}, {trackOf(0, 9, 5, 0, 10, 8, 15, 0, 20, 9), 20, 1},
	} {
		checkTangentFor(t, c.path, c.distance, c.want)
	}
}

// TestLeastTangentIsJustEnough compares TangentFor with StopOf of its result and of the next lesser one.
func TestLeastTangentIsJustEnough(t *testing.T) {
	for _, path := range append(goodTracks(), mixedTracks(500)...) {
		for _, x := range path {
			tangent, code := impl.TangentFor(path, x.Distance)
			if code != impl.OK {
				tangent = impl.MaxTangent + 1
			}
			if tangent <= impl.MaxTangent {
				if stop, code := impl.StopOf(path, tangent); stop > x.Distance || code != impl.OK {
					t.Errorf("%v stops at %d, %d with %d, and not at %d", path, stop, code, tangent, x.Distance)
				}
			}
			if tangent > 1 {
				if stop, code := impl.StopOf(path, tangent-1); code == impl.OK && stop <= x.Distance {
					t.Errorf("%v stops at %d with %d, less than %d", path, stop, tangent-1, tangent)
				}
			}
		}
	}
}
