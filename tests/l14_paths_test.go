package tests

import (
	"math/rand/v2"
	"slices"
	"testing"

	"loop.example/g01013/impl"
)

func pointFields() []numberField[impl.PathPoint] {
	return []numberField[impl.PathPoint]{
		{"Distance", func(x *impl.PathPoint) *int64 { return &x.Distance }, 0, 20000},
		{"Height", func(x *impl.PathPoint) *int64 { return &x.Height }, 0, 9000},
	}
}

// trackOf returns the path with these distances and heights in turn.
func trackOf(numbers ...int64) []impl.PathPoint {
	path := []impl.PathPoint{}
	for pair := range slices.Chunk(numbers, 2) {
		path = append(path, impl.PathPoint{Distance: pair[0], Height: pair[1]})
	}
	return path
}

// evenTrack has so many points that are step metres apart, and falls by as many metres from each one to the next.
func evenTrack(count int, step, fall int64) []impl.PathPoint {
	path := []impl.PathPoint{}
	for k := range int64(count) {
		path = append(path, impl.PathPoint{Distance: k * step, Height: 9000 - k*fall})
	}
	return path
}

// answeredTrack is one for which each function has an answer to the question answeredSlide.
func answeredTrack() []impl.PathPoint { return trackOf(0, 1000, 100, 900, 200, 900) }

// mixedTrack has so many points at most, up to step metres apart, and no height of more than most; some are very flat.
func mixedTrack(mix *rand.Rand, count int, step, most int64) []impl.PathPoint {
	start := mix.Int64N(most + 1)
	path := trackOf(0, start)
	distance, height := int64(0), start
	for range 1 + mix.IntN(count-1) {
		distance += 1 + mix.Int64N(step)
		switch mix.IntN(4) {
		case 0:
			height = mix.Int64N(start + 1)
		case 1:
			height = max(0, height-mix.Int64N(3))
		case 2:
			height = max(0, height-mix.Int64N(step+1))
		default:
			height = min(start, height+mix.Int64N(2))
		}
		path = append(path, impl.PathPoint{Distance: distance, Height: height})
	}
	return path
}

// mixedTracks holds so many paths that are always the same.
func mixedTracks(count int) [][]impl.PathPoint {
	mix := rand.New(rand.NewPCG(14, 1))
	paths := [][]impl.PathPoint{}
	for range count {
		points, step, most := 2+mix.IntN(5), int64(1+mix.IntN(12)), int64(1+mix.IntN(40))
		switch mix.IntN(3) {
		case 0:
			step = 300
		case 1:
			points, step, most = 24, 20, 9000
		}
		paths = append(paths, mixedTrack(mix, points, step, most))
	}
	return paths
}

func goodTracks() [][]impl.PathPoint {
	return append(mixedTracks(60),
		answeredTrack(), trackOf(0, 0, 1, 0), trackOf(0, 9000, 20000, 9000), trackOf(0, 9000, 20000, 0), trackOf(0, 9000, 1, 0), trackOf(0, 9000, 1, 9000, 20000, 0), trackOf(0, 5, 19999, 0, 20000, 5), trackOf(0, 9000, 1, 0, 2, 9000, 3, 0, 4, 8999),
		evenTrack(24, 1, 1), evenTrack(24, 869, 391), evenTrack(23, 7, 0), evenTrack(2, 20000, 9000), evenTrack(3, 10000, 4500),
	)
}

// badTracks holds paths that are not valid, each for one cause.
func badTracks() [][]impl.PathPoint {
	paths := [][]impl.PathPoint{
		nil, {}, trackOf(0, 5), trackOf(0, 0), evenTrack(25, 1, 1), evenTrack(25, 1, 0), evenTrack(1000, 1, 0), make([]impl.PathPoint, 2), make([]impl.PathPoint, 1000),
		trackOf(1, 1000, 100, 900), trackOf(-1, 1000, 100, 900), trackOf(-1, 1000, 0, 900), trackOf(1, 5, 2, 5),
		trackOf(0, 1000, 0, 900), trackOf(0, 1000, 100, 900, 100, 900), trackOf(0, 1000, 100, 900, 100, 800, 200, 700), trackOf(0, 1000, 100, 900, 99, 900), trackOf(0, 1000, 200, 900, 100, 900, 300, 900), trackOf(0, 1000, 100, 900, 0, 900),
		trackOf(0, 1000, 20001, 0), trackOf(0, 1000, 1, 1, 20001, 0), trackOf(0, 9001, 1, 9001), trackOf(0, 9001, 1, 0), trackOf(0, 9000, 1, 9001), trackOf(0, 5, 1, -1), trackOf(0, -1, 1, -1), trackOf(0, -1, 1, -2),
		trackOf(0, 1000, 100, 1001), trackOf(0, 1000, 100, 900, 200, 1001), trackOf(0, 0, 1, 1), trackOf(0, 1000, 100, 1001, 200, 900), trackOf(0, 8999, 1, 9000),
	}
	for _, field := range pointFields() {
		for k := range answeredTrack() {
			for _, n := range append(otherNumbers(), -1, field.greatest+1) {
				path := answeredTrack()
				path[k] = withField(path[k], field, n)
				paths = append(paths, path)
			}
		}
	}
	return paths
}

func TestConstantsOfAngles(t *testing.T) {
	if impl.MaxPath != 24 || impl.MaxDistance != 20000 || impl.MaxTangent != 3000 {
		t.Error(impl.MaxPath, impl.MaxDistance, impl.MaxTangent)
	}
}

func TestValidPath(t *testing.T) {
	for _, path := range goodTracks() {
		if !impl.ValidPath(path) {
			t.Errorf("ValidPath(%v) = false", path)
		}
	}
	for _, path := range badTracks() {
		if impl.ValidPath(path) {
			t.Errorf("ValidPath(%.200v) = true", path)
		}
	}
}

func TestNumbersOfPointsOfPaths(t *testing.T) {
	for count := range 40 {
		if got, want := impl.ValidPath(evenTrack(count, 1, 1)), count >= 2 && count <= 24; got != want {
			t.Errorf("ValidPath of %d points = %v", count, got)
		}
	}
}

// TestOnePointOfAPath moves each point of a path up and down, and to and fro.
func TestOnePointOfAPath(t *testing.T) {
	for k := range 3 {
		for height := int64(-2); height <= 12; height++ {
			path := trackOf(0, 6, 3, 4, 6, 2)
			path[k].Height = height
			isValid := height >= 0 && height <= 6
			if k == 0 {
				isValid = height >= 4
			}
			if got := impl.ValidPath(path); got != isValid {
				t.Errorf("ValidPath(%v) = %v", path, got)
			}
		}
		for distance := int64(-2); distance <= 12; distance++ {
			path := trackOf(0, 6, 3, 4, 6, 2)
			path[k].Distance = distance
			if got, want := impl.ValidPath(path), path[0].Distance == 0 && path[1].Distance > 0 && path[1].Distance < path[2].Distance; got != want {
				t.Errorf("ValidPath(%v) = %v", path, got)
			}
		}
	}
}
