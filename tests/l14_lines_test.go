package tests

import (
	"testing"

	"loop.example/g01013/impl"
)

// groundsAsTold holds the height of the ground at each distance of a path, from leg to leg, with wide integers.
func groundsAsTold(path []impl.PathPoint) []int64 {
	grounds := []int64{}
	for k, to := range path[1:] {
		from := path[k]
		for passed := range to.Distance - from.Distance {
			fall := roundedQuotient(1000*(to.Height-from.Height)*passed, to.Distance-from.Distance)
			grounds = append(grounds, 1000*from.Height+fall.Int64())
		}
	}
	return append(grounds, 1000*path[len(path)-1].Height)
}

// someTangents holds tangents of all sizes.
func someTangents() []int64 {
	return []int64{1, 2, 3, 4, 5, 10, 50, 99, 100, 101, 333, 500, 999, 1000, 1001, 1500, 2000, 2500, 2999, 3000}
}

func TestTangentOf(t *testing.T) {
	for _, path := range goodTracks() {
		for k := int64(1); k < int64(len(path)); k++ {
			want := roundedQuotient(1000*(path[0].Height-path[k].Height), path[k].Distance).Int64()
			got, code := impl.TangentOf(path, k)
			checkCoded(t, "TangentOf", got, code, want, impl.OK)
		}
		for _, k := range append(otherNumbers(), -1, 0, int64(len(path)), int64(len(path))+1) {
			got, code := impl.TangentOf(path, k)
			checkCoded(t, "TangentOf", got, code, 0, impl.ErrRange)
		}
	}
}

func TestKnownTangents(t *testing.T) {
	for _, c := range []struct {
		path         []impl.PathPoint
		k            int64
		want, wanted int64
	}{
		{answeredTrack(), 1, 1000, impl.OK}, {answeredTrack(), 2, 500, impl.OK}, {answeredTrack(), 0, 0, impl.ErrRange}, {answeredTrack(), 3, 0, impl.ErrRange}, {answeredTrack(), -1, 0, impl.ErrRange},
		{trackOf(0, 0, 1, 0), 1, 0, impl.OK}, {trackOf(0, 9000, 1, 0), 1, 9000000, impl.OK}, {trackOf(0, 9000, 20000, 0), 1, 450, impl.OK}, {trackOf(0, 5, 7, 5), 1, 0, impl.OK},
		// A third is rounded down, two thirds and a half are rounded up.
		{trackOf(0, 1, 3, 0), 1, 333, impl.OK}, {trackOf(0, 2, 3, 0), 1, 667, impl.OK}, {trackOf(0, 1, 2000, 0), 1, 1, impl.OK}, {trackOf(0, 1, 2001, 0), 1, 0, impl.OK}, {trackOf(0, 3, 2000, 0), 1, 2, impl.OK},
		// A point tells about the whole way from the first one, not only about the last leg.
		{trackOf(0, 100, 10, 20, 20, 60), 2, 2000, impl.OK}, {evenTrack(24, 869, 391), 23, 450, impl.OK}, {evenTrack(24, 869, 391), 24, 0, impl.ErrRange},
	} {
		got, code := impl.TangentOf(c.path, c.k)
		checkCoded(t, "TangentOf", got, code, c.want, c.wanted)
	}
}

func TestGroundAt(t *testing.T) {
	for _, path := range goodTracks() {
		for distance, want := range groundsAsTold(path) {
			got, code := impl.GroundAt(path, int64(distance))
			checkCoded(t, "GroundAt", got, code, want, impl.OK)
		}
		last := path[len(path)-1].Distance
		for _, distance := range append(otherNumbers(), -1, last+1, last+2) {
			got, code := impl.GroundAt(path, distance)
			checkCoded(t, "GroundAt", got, code, 0, impl.ErrRange)
		}
	}
}

func TestKnownGrounds(t *testing.T) {
	for _, c := range []struct {
		path         []impl.PathPoint
		distance     int64
		want, wanted int64
	}{
		{answeredTrack(), 0, 1000000, impl.OK}, {answeredTrack(), 1, 999000, impl.OK}, {answeredTrack(), 50, 950000, impl.OK}, {answeredTrack(), 100, 900000, impl.OK}, {answeredTrack(), 101, 900000, impl.OK}, {answeredTrack(), 200, 900000, impl.OK}, {answeredTrack(), 201, 0, impl.ErrRange}, {answeredTrack(), -1, 0, impl.ErrRange},
		// A half is rounded away from the height at which a leg begins.
		{trackOf(0, 1, 2000, 0), 1, 999, impl.OK}, {trackOf(0, 1, 2000, 0), 2, 999, impl.OK}, {trackOf(0, 1, 2000, 0), 3, 998, impl.OK}, {trackOf(0, 1, 2000, 0, 4000, 1), 2001, 1, impl.OK}, {trackOf(0, 1, 2000, 0, 4000, 1), 2002, 1, impl.OK}, {trackOf(0, 1, 2000, 0, 4000, 1), 2003, 2, impl.OK},
		{trackOf(0, 9, 3, 8, 6, 9), 1, 8667, impl.OK}, {trackOf(0, 9, 3, 8, 6, 9), 2, 8333, impl.OK}, {trackOf(0, 9, 3, 8, 6, 9), 4, 8333, impl.OK}, {trackOf(0, 9, 3, 8, 6, 9), 5, 8667, impl.OK},
		{trackOf(0, 9000, 20000, 0), 1, 8999550, impl.OK}, {trackOf(0, 9000, 20000, 0), 19999, 450, impl.OK}, {trackOf(0, 9000, 20000, 0), 20000, 0, impl.OK}, {trackOf(0, 9000, 20000, 0), 20001, 0, impl.ErrRange},
	} {
		got, code := impl.GroundAt(c.path, c.distance)
		checkCoded(t, "GroundAt", got, code, c.want, c.wanted)
	}
}

func TestLineAt(t *testing.T) {
	for _, path := range goodTracks() {
		last := path[len(path)-1].Distance
		for _, tangent := range someTangents() {
			for distance := int64(0); distance <= last; distance += 1 + last/50 {
				got, code := impl.LineAt(path, tangent, distance)
				checkCoded(t, "LineAt", got, code, 1000*path[0].Height-tangent*distance, impl.OK)
			}
			for _, distance := range append(otherNumbers(), -1, last+1) {
				got, code := impl.LineAt(path, tangent, distance)
				checkCoded(t, "LineAt", got, code, 0, impl.ErrRange)
			}
		}
		for _, tangent := range append(otherNumbers(), -1, 0, 3001) {
			for _, distance := range []int64{0, 1, last} {
				got, code := impl.LineAt(path, tangent, distance)
				checkCoded(t, "LineAt", got, code, 0, impl.ErrRange)
			}
		}
	}
}

func TestKnownLines(t *testing.T) {
	for _, c := range []struct {
		path                    []impl.PathPoint
		tangent, distance, want int64
	}{
		{answeredTrack(), 500, 0, 1000000}, {answeredTrack(), 500, 100, 950000}, {answeredTrack(), 1, 200, 999800}, {answeredTrack(), 3000, 200, 400000},
		// The line goes on below the ground, also below the height 0.
		{trackOf(0, 0, 1, 0), 1, 1, -1}, {trackOf(0, 9000, 20000, 9000), 3000, 20000, -51000000}, {trackOf(0, 9000, 20000, 9000), 450, 20000, 0}, {trackOf(0, 9000, 20000, 9000), 451, 20000, -20000},
	} {
		got, code := impl.LineAt(c.path, c.tangent, c.distance)
		checkCoded(t, "LineAt", got, code, c.want, impl.OK)
	}
}
