package tests

import (
	"math/rand/v2"
	"slices"
	"testing"

	"loop.example/g01013/impl"
)

func partFields() []numberField[impl.Part] {
	return []numberField[impl.Part]{
		{"Length", func(x *impl.Part) *int64 { return &x.Length }, 1, 2000},
		{"Width", func(x *impl.Part) *int64 { return &x.Width }, 1, 500},
		{"Depth", func(x *impl.Part) *int64 { return &x.Depth }, 0, 500},
		{"Density", func(x *impl.Part) *int64 { return &x.Density }, 1, 1000},
	}
}

func partOf(length, width, depth, density int64) impl.Part {
	return impl.Part{Length: length, Width: width, Depth: depth, Density: density}
}

// goodPart has 200 tonnes of snow.
func goodPart() impl.Part { return partOf(100, 10, 100, 200) }

func leastPart() impl.Part { return partOf(1, 1, 0, 1) }

// greatestPart has 5000000 tonnes of snow.
func greatestPart() impl.Part { return partOf(2000, 500, 500, 1000) }

// partWith has so many tonnes of snow, up to 5000.
func partWith(tonnes int64) impl.Part { return partOf(tonnes, 1, 100, 1000) }

func pathOf(x impl.Part, count int) []impl.Part { return slices.Repeat([]impl.Part{x}, count) }

// pathWith has parts with so many tonnes of snow, each of which may be up to 2000.
func pathWith(tonnes ...int64) []impl.Part {
	list := []impl.Part{}
	for _, n := range tonnes {
		if n == 0 {
			list = append(list, leastPart())
		} else {
			list = append(list, partWith(n))
		}
	}
	return list
}

// badPartList holds parts in which one number is not as it must be.
func badPartList() []impl.Part {
	list := []impl.Part{{}}
	for _, field := range partFields() {
		for _, n := range append(otherNumbers(), field.least-1, field.greatest+1) {
			list = append(list, withField(goodPart(), field, n), withField(greatestPart(), field, n))
		}
	}
	return list
}

// mixedPart has numbers that are often one of their limits.
func mixedPart(mix *rand.Rand) impl.Part {
	x := impl.Part{}
	for _, field := range partFields() {
		n := field.least + mix.Int64N(field.greatest-field.least+1)
		switch mix.IntN(6) {
		case 0:
			n = field.least
		case 1:
			n = field.greatest
		case 2, 3:
			n = field.least + mix.Int64N(20)
		}
		x = withField(x, field, n)
	}
	return x
}

// mixedPaths holds so many paths that are always the same.
func mixedPaths(count int) [][]impl.Part {
	mix := rand.New(rand.NewPCG(12, 2026))
	paths := [][]impl.Part{}
	for range count {
		list := []impl.Part{}
		for range mix.IntN(impl.MaxParts + 1) {
			list = append(list, mixedPart(mix))
		}
		paths = append(paths, list)
	}
	return paths
}

// goodPaths holds valid paths, from no parts to as many as may be.
func goodPaths() [][]impl.Part {
	return append([][]impl.Part{
		nil, {}, {leastPart()}, {goodPart()}, {greatestPart()}, {goodPart(), leastPart()}, {leastPart(), goodPart(), greatestPart()}, pathWith(5, 3, 8, 8, 1), pathWith(0, 0, 7), pathWith(2000, 1),
		pathOf(leastPart(), impl.MaxParts), pathOf(goodPart(), impl.MaxParts), pathOf(greatestPart(), impl.MaxParts), pathOf(goodPart(), impl.MaxParts-1),
	}, mixedPaths(60)...)
}

// badPaths holds paths that are too long, or in which one part is not as it must be.
func badPaths() [][]impl.Part {
	paths := [][]impl.Part{pathOf(goodPart(), impl.MaxParts+1), pathOf(leastPart(), impl.MaxParts+1), pathOf(greatestPart(), 100), pathOf(impl.Part{}, 100000)}
	for _, x := range badPartList() {
		first, last := pathOf(goodPart(), impl.MaxParts), pathOf(leastPart(), 3)
		first[0], last[2] = x, x
		paths = append(paths, []impl.Part{x}, first, last)
	}
	return paths
}

func TestConstantsOfVolumes(t *testing.T) {
	if impl.MaxSquares != 1000000 || impl.MaxTonnes != 100000000 || impl.MaxParts != 24 {
		t.Error(impl.MaxSquares, impl.MaxTonnes, impl.MaxParts)
	}
}

func TestValidParts(t *testing.T) {
	for _, list := range goodPaths() {
		if !impl.ValidParts(list) {
			t.Errorf("ValidParts(%v) = false", list)
		}
	}
	for _, list := range badPaths() {
		if impl.ValidParts(list) {
			t.Errorf("ValidParts(%.200v) = true", list)
		}
	}
}

func TestValidPartsOfEachNumber(t *testing.T) {
	for _, field := range partFields() {
		for n := int64(-3); n <= 2005; n++ {
			want := n >= field.least && n <= field.greatest
			if got := impl.ValidParts([]impl.Part{withField(goodPart(), field, n)}); got != want {
				t.Errorf("ValidParts with the %s %d = %v", field.name, n, got)
			}
		}
	}
	for count := range 60 {
		for _, x := range []impl.Part{leastPart(), goodPart(), greatestPart()} {
			if got := impl.ValidParts(pathOf(x, count)); got != (count <= 24) {
				t.Errorf("ValidParts of %d parts = %v", count, got)
			}
		}
	}
	// A part may be wrong wherever it stands.
	for i := range impl.MaxParts {
		list := pathOf(goodPart(), impl.MaxParts)
		list[i].Width = 501
		if impl.ValidParts(list) {
			t.Errorf("ValidParts with a wrong part at %d = true", i)
		}
	}
}
