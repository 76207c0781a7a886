package tests

import (
	"math/big"
	"testing"

	"loop.example/g01013/impl"
)

// betaAsTold compares the fall of each leg that counts with 176 thousandths of its way, by fractions.
func betaAsTold(path []impl.PathPoint) (int64, int64) {
	for k := 1; k < len(path)-1; k++ {
		fall := big.NewRat(path[k].Height-path[k+1].Height, path[k+1].Distance-path[k].Distance)
		if fall.Cmp(big.NewRat(176, 1000)) < 0 {
			return int64(k), impl.OK
		}
	}
	return 0, impl.ErrNotFound
}

// alphaAsTold returns the tangent of a runout, with wide integers.
func alphaAsTold(path []impl.PathPoint, a, b int64) (int64, int64) {
	k, code := betaAsTold(path)
	if code != impl.OK {
		return 0, code
	}
	beta := roundedQuotient(1000*(path[0].Height-path[k].Height), path[k].Distance).Int64()
	alpha := roundedQuotient(a*beta, 1000).Int64() - b
	if alpha < 1 || alpha > 3000 {
		return 0, impl.ErrState
	}
	return alpha, impl.OK
}

// checkAlpha compares AlphaOf with what is wanted, and RunoutOf with the stop of its result.
func checkAlpha(t *testing.T, path []impl.PathPoint, a, b, want, wanted int64) {
	t.Helper()
	if got, code := impl.AlphaOf(path, a, b); got != want || code != wanted {
		t.Errorf("AlphaOf(%v, %d, %d) = %d, %d, want %d, %d", path, a, b, got, code, want, wanted)
	}
	stop, failure := int64(0), wanted
	if wanted == impl.OK {
		if stop = stopAsTold(clearancesAsTold(groundsAsTold(path), want)); stop == 0 {
			failure = impl.ErrNotFound
		}
	}
	if got, code := impl.RunoutOf(path, a, b); got != stop || code != failure {
		t.Errorf("RunoutOf(%v, %d, %d) = %d, %d, want %d, %d", path, a, b, got, code, stop, failure)
	}
}

func TestBetaPoint(t *testing.T) {
	for _, path := range append(goodTracks(), mixedTracks(3000)...) {
		want, wanted := betaAsTold(path)
		if got, code := impl.BetaPoint(path); got != want || code != wanted {
			t.Errorf("BetaPoint(%v) = %d, %d, want %d, %d", path, got, code, want, wanted)
		}
	}
}

func TestKnownBetaPoints(t *testing.T) {
	for _, c := range []struct {
		path         []impl.PathPoint
		want, wanted int64
	}{
		{answeredTrack(), 1, impl.OK}, {answeredTrack()[:2], 0, impl.ErrNotFound},
		// A fall of just 176 thousandths is not flat, and one of a bit less is.
		{trackOf(0, 1000, 100, 900, 1100, 724), 0, impl.ErrNotFound}, {trackOf(0, 1000, 100, 900, 1100, 725), 1, impl.OK}, {trackOf(0, 1000, 100, 900, 1101, 724), 1, impl.OK}, {trackOf(0, 1000, 100, 900, 1099, 724), 0, impl.ErrNotFound}, {trackOf(0, 1000, 100, 900, 225, 878), 0, impl.ErrNotFound}, {trackOf(0, 1000, 100, 900, 226, 878), 1, impl.OK},
		{trackOf(0, 9000, 1, 8999, 17001, 6007), 0, impl.ErrNotFound}, {trackOf(0, 9000, 1, 8999, 17001, 6008), 1, impl.OK},
		// One that rises is flat, too, but the first point does not count.
		{trackOf(0, 1000, 100, 900, 200, 1000), 1, impl.OK}, {trackOf(0, 1000, 100, 1000, 200, 900), 0, impl.ErrNotFound}, {trackOf(0, 1000, 100, 1000), 0, impl.ErrNotFound}, {trackOf(0, 1000, 100, 1000, 200, 1000), 1, impl.OK},
		// The last point has no next one, and the first of several points is it.
		{trackOf(0, 1000, 100, 900, 200, 800, 300, 700), 0, impl.ErrNotFound}, {trackOf(0, 1000, 100, 900, 200, 800, 300, 790), 2, impl.OK}, {trackOf(0, 1000, 100, 900, 200, 890, 300, 790, 400, 780), 1, impl.OK}, {evenTrack(24, 100, 17), 1, impl.OK}, {evenTrack(24, 100, 18), 0, impl.ErrNotFound},
		{append(evenTrack(23, 100, 18), impl.PathPoint{Distance: 2300, Height: 8600}), 22, impl.OK},
	} {
		if got, code := impl.BetaPoint(c.path); got != c.want || code != c.wanted {
			t.Errorf("BetaPoint(%v) = %d, %d, want %d, %d", c.path, got, code, c.want, c.wanted)
		}
	}
}

func TestAlphaOf(t *testing.T) {
	for _, path := range append(goodTracks(), mixedTracks(300)...) {
		for _, a := range []int64{1, 2, 499, 500, 501, 800, 999, 1000, 1001, 1999, 2000} {
			for _, b := range []int64{0, 1, 2, 50, 500, 999, 1000} {
				want, wanted := alphaAsTold(path, a, b)
				checkAlpha(t, path, a, b, want, wanted)
			}
		}
		for _, a := range append(otherNumbers(), -1, 0, 2001, 2002) {
			checkAlpha(t, path, a, 0, 0, impl.ErrRange)
			checkAlpha(t, path, a, 1001, 0, impl.ErrRange)
		}
		for _, b := range append(otherNumbers(), -2, -1, 1001, 1002) {
			checkAlpha(t, path, 1, b, 0, impl.ErrRange)
			checkAlpha(t, path, 2001, b, 0, impl.ErrRange)
		}
	}
}

func TestKnownAlphas(t *testing.T) {
	steep, gentle := trackOf(0, 9000, 1000, 6000, 2000, 6000), trackOf(0, 1000, 1000, 500, 2000, 400)
	for _, c := range []struct {
		path               []impl.PathPoint
		a, b, want, wanted int64
	}{
		{answeredTrack(), 600, 0, 600, impl.OK}, {answeredTrack(), 1000, 0, 1000, impl.OK}, {answeredTrack(), 2000, 0, 2000, impl.OK}, {answeredTrack(), 2000, 1000, 1000, impl.OK}, {answeredTrack(), 1, 0, 1, impl.OK}, {answeredTrack(), 1, 1, 0, impl.ErrState}, {answeredTrack(), 1, 1000, 0, impl.ErrState},
		// The result is 1, or just too little for a tangent.
		{answeredTrack(), 1000, 999, 1, impl.OK}, {answeredTrack(), 1000, 1000, 0, impl.ErrState}, {answeredTrack(), 999, 999, 0, impl.ErrState},
		// The result is MaxTangent, or just too much; the tangent of the beta point alone may be greater.
		{steep, 1000, 0, 3000, impl.OK}, {steep, 1001, 3, 3000, impl.OK}, {steep, 1001, 2, 0, impl.ErrState}, {steep, 1001, 0, 0, impl.ErrState}, {steep, 2000, 1000, 0, impl.ErrState}, {trackOf(0, 9000, 1, 0, 2, 0), 1, 1000, 0, impl.ErrState}, {trackOf(0, 4000, 1, 0, 2, 0), 1, 1000, 3000, impl.OK}, {trackOf(0, 4001, 1, 0, 2, 0), 1, 1000, 0, impl.ErrState},
		// The factor is rounded before b is taken away: halves up.
		{gentle, 1, 0, 1, impl.OK}, {gentle, 3, 0, 2, impl.OK}, {gentle, 3, 1, 1, impl.OK}, {gentle, 3, 2, 0, impl.ErrState}, {trackOf(0, 1000, 1000, 501, 2000, 400), 1, 0, 0, impl.ErrState}, {trackOf(0, 1000, 1000, 501, 2000, 400), 3, 0, 1, impl.OK}, {trackOf(0, 1000, 1000, 501, 2000, 400), 2, 0, 1, impl.OK},
		// A level beginning has the tangent 0.
		{trackOf(0, 5, 1, 5, 2, 5), 2000, 0, 0, impl.ErrState}, {answeredTrack()[:2], 1000, 0, 0, impl.ErrNotFound}, {answeredTrack()[:2], 1000, 1000, 0, impl.ErrNotFound},
	} {
		checkAlpha(t, c.path, c.a, c.b, c.want, c.wanted)
	}
}

func TestKnownRunouts(t *testing.T) {
	for _, c := range []struct {
		path               []impl.PathPoint
		a, b, want, wanted int64
	}{
		{answeredTrack(), 600, 0, 167, impl.OK}, {answeredTrack(), 1000, 0, 1, impl.OK}, {answeredTrack(), 2000, 1000, 1, impl.OK}, {answeredTrack(), 1000, 500, 200, impl.OK}, {answeredTrack(), 1, 1000, 0, impl.ErrState}, {answeredTrack()[:2], 1000, 0, 0, impl.ErrNotFound},
		// There is a tangent, but with it a mass does not stop.
		{answeredTrack(), 1000, 501, 0, impl.ErrNotFound}, {answeredTrack(), 499, 0, 0, impl.ErrNotFound}, {answeredTrack(), 1, 0, 0, impl.ErrNotFound}, {answeredTrack(), 1000, 999, 0, impl.ErrNotFound},
	} {
		if got, code := impl.RunoutOf(c.path, c.a, c.b); got != c.want || code != c.wanted {
			t.Errorf("RunoutOf(%v, %d, %d) = %d, %d, want %d, %d", c.path, c.a, c.b, got, code, c.want, c.wanted)
		}
	}
}
