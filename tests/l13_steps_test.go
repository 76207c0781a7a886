package tests

import (
	"fmt"
	"slices"
	"testing"

	"loop.example/g01013/impl"
)

func TestConstantsOfRouting(t *testing.T) {
	if impl.MaxMass != 1000000 || impl.MaxFriction != 5000 {
		t.Error(impl.MaxMass, impl.MaxFriction)
	}
}

func TestTotalMass(t *testing.T) {
	for _, c := range routeCases(2) {
		got, code := impl.TotalMass(c.g, c.masses)
		checkCoded(t, fmt.Sprint("TotalMass ", c), got, code, totalOf(c.masses), impl.OK)
	}
	for _, known := range []struct {
		g      impl.Grid
		masses []int64
		want   int64
	}{
		{flatGrid(1, 1, 0), []int64{0}, 0}, {flatGrid(1, 1, 0), []int64{7}, 7}, {flatGrid(1, 1, 5000), []int64{1000000}, 1000000}, {flatGrid(1, 3, 5), []int64{1, 20, 300}, 321}, {flatGrid(3, 1, 5), []int64{0, 0, 4}, 4}, {flatGrid(2, 2, 5), []int64{4, 0, 0, 3}, 7}, {flatGrid(8, 8, 5), repeated(1000000, 64), 64000000}, {flatGrid(8, 8, 5), repeated(0, 64), 0},
	} {
		got, code := impl.TotalMass(known.g, known.masses)
		checkCoded(t, fmt.Sprint("TotalMass ", known), got, code, known.want, impl.OK)
	}
}

func checkRouteStep(t *testing.T, c routeCase, friction int64, wantMoved, wantSettled []int64) {
	t.Helper()
	moved, settled, code := impl.RouteStep(c.g, c.masses, friction)
	if !slices.Equal(moved, wantMoved) || !slices.Equal(settled, wantSettled) || code != impl.OK {
		t.Errorf("RouteStep of %v with the friction %d = %v, %v, %d, want %v, %v", c, friction, moved, settled, code, wantMoved, wantSettled)
	}
}

func TestRouteStep(t *testing.T) {
	eachRoute(3, func(c routeCase, all [][]wayDown, friction int64) {
		moved, settled := stepAsTold(all, c.masses, friction)
		checkRouteStep(t, c, friction, moved, settled)
	})
}

// TestStepsKeepAllMass is the first half of the fourteenth promise.
func TestStepsKeepAllMass(t *testing.T) {
	eachRoute(3, func(c routeCase, _ [][]wayDown, friction int64) {
		before, _ := impl.TotalMass(c.g, c.masses)
		moved, settled, code := impl.RouteStep(c.g, c.masses, friction)
		if after := totalOf(moved) + totalOf(settled); after != before || code != impl.OK {
			t.Errorf("a step of %v with the friction %d makes %d of %d", c, friction, after, before)
		}
		if slices.Min(moved) < 0 || slices.Min(settled) < 0 {
			t.Errorf("a step of %v with the friction %d has negative masses: %v, %v", c, friction, moved, settled)
		}
	})
}

// TestMassesOnlyMoveDown checks that a mass moves to cells next to its own over slopes that are enough, and settles only where there are none.
func TestMassesOnlyMoveDown(t *testing.T) {
	for _, g := range goodGrids() {
		all := waysDownAsTold(g)
		for _, cell := range cellsOf(g) {
			for _, friction := range frictionsAround(all) {
				moved, settled, _ := impl.RouteStep(g, oneMass(g, cell, impl.MaxMass), friction)
				for other, mass := range moved {
					isOpen := slices.ContainsFunc(all[cell], func(way wayDown) bool {
						return way.to == int64(other) && way.slope >= friction
					})
					if mass > 0 != isOpen {
						t.Errorf("%d of the cell %d of %v come to the cell %d with the friction %d", mass, cell, g, other, friction)
					}
				}
				if isSettled := settled[cell] > 0; isSettled != (totalOf(moved) == 0) || totalOf(settled) != settled[cell] {
					t.Errorf("%v settle of the cell %d of %v with the friction %d", settled, cell, g, friction)
				}
			}
		}
	}
}

type knownStep struct {
	text           string
	masses         []int64
	friction       int64
	moved, settled []int64
}

func checkKnownSteps(t *testing.T, cases []knownStep) {
	t.Helper()
	for _, known := range cases {
		c := routeCase{gridFrom(t, known.text), known.masses}
		moved, settled := known.moved, known.settled
		// A list that is not told has only zeros.
		if moved == nil {
			moved = repeated(0, len(known.masses))
		}
		if settled == nil {
			settled = repeated(0, len(known.masses))
		}
		checkRouteStep(t, c, known.friction, moved, settled)
	}
}

func TestKnownRouteSteps(t *testing.T) {
	bowl := "3,3,10:100,100,100,90,80,90,70,60,75"
	middle := []int64{0, 10, 0}
	checkKnownSteps(t, []knownStep{
		// The slopes are 500 and 250, as in the example: 6 and 3 are the shares, and the steepest one gets what is left.
		{"1,3,20:0,10,5", middle, 1, []int64{7, 0, 3}, nil}, {"1,3,20:5,10,0", middle, 1, []int64{3, 0, 7}, nil}, {"3,1,20:0,10,5", middle, 250, []int64{7, 0, 3}, nil}, {"3,1,20:5,10,0", middle, 250, []int64{3, 0, 7}, nil},
		// With a friction of one more than the lesser slope, then than the greater one, too.
		{"1,3,20:0,10,5", middle, 251, []int64{10, 0, 0}, nil}, {"1,3,20:0,10,5", middle, 500, []int64{10, 0, 0}, nil}, {"1,3,20:0,10,5", middle, 501, nil, middle}, {"1,3,20:0,10,5", middle, 5000, nil, middle},
		{"1,2,10:5,0", []int64{9, 0}, 499, []int64{0, 9}, nil}, {"1,2,10:5,0", []int64{9, 0}, 500, []int64{0, 9}, nil}, {"1,2,10:5,0", []int64{9, 0}, 501, nil, []int64{9, 0}}, {"1,2,1:5,0", []int64{9, 0}, 5000, []int64{0, 9}, nil}, {"2,1,1:0,5", []int64{0, 9}, 5000, []int64{9, 0}, nil}, {"1,2,1:4,0", []int64{9, 0}, 5000, nil, []int64{9, 0}}, {"1,2,100:1,0", []int64{9, 0}, 10, []int64{0, 9}, nil}, {"1,2,100:1,0", []int64{9, 0}, 11, nil, []int64{9, 0}}, {"2,2,100:1,9,9,0", []int64{9, 0, 0, 0}, 7, []int64{0, 0, 0, 9}, nil}, {"2,2,100:1,9,9,0", []int64{9, 0, 0, 0}, 8, nil, []int64{9, 0, 0, 0}}, {"2,2,100:1,9,9,0", []int64{9, 0, 0, 0}, 1, []int64{0, 0, 0, 9}, nil},
		{bowl, []int64{0, 100, 0, 0, 0, 0, 0, 0, 0}, 300, []int64{0, 0, 0, 20, 60, 20, 0, 0, 0}, nil}, {bowl, []int64{0, 100, 0, 0, 0, 0, 0, 0, 0}, 707, []int64{0, 0, 0, 20, 60, 20, 0, 0, 0}, nil}, {bowl, []int64{0, 100, 0, 0, 0, 0, 0, 0, 0}, 708, []int64{0, 0, 0, 0, 100, 0, 0, 0, 0}, nil}, {bowl, []int64{0, 100, 0, 0, 0, 0, 0, 0, 0}, 2001, nil, []int64{0, 100, 0, 0, 0, 0, 0, 0, 0}},
		// All cells at once: from the north-west on they give 6 and 4; 2, 6 and 2; 4 and 6; 1, 6 and 3; 1, 7 and 2; 5, 2 and 3; 10; nothing; 10.
		{bowl, []int64{10, 10, 10, 10, 10, 10, 10, 10, 10}, 1, []int64{0, 0, 0, 6, 21, 6, 5, 38, 4}, []int64{0, 0, 0, 0, 0, 0, 0, 10, 0}},
		// A mass does not move on from where it comes to in the same step.
		{"1,4,10:9,8,7,6", []int64{1, 2, 3, 4}, 1, []int64{0, 1, 2, 3}, []int64{0, 0, 0, 4}}, {"4,1,10:6,7,8,9", []int64{1, 2, 3, 4}, 100, []int64{2, 3, 4, 0}, []int64{1, 0, 0, 0}}, {"1,4,10:9,8,7,6", []int64{1, 2, 3, 4}, 101, nil, []int64{1, 2, 3, 4}},
		// Masses meet in a cell that has one, and in one that has none.
		{"1,3,10:5,0,5", []int64{3, 2, 4}, 1, []int64{0, 7, 0}, []int64{0, 2, 0}}, {"1,3,10:5,0,5", []int64{3, 0, 4}, 1, []int64{0, 7, 0}, nil}, {"3,3,10:9,9,9,9,0,9,9,9,9", []int64{1, 2, 4, 8, 16, 32, 64, 128, 256}, 1, []int64{0, 0, 0, 0, 495, 0, 0, 0, 0}, []int64{0, 0, 0, 0, 16, 0, 0, 0, 0}},
		{"1,5,10:0,4,2,4,0", []int64{0, 3, 0, 4, 0}, 1, []int64{2, 0, 2, 0, 3}, nil},
		// The greatest mass over the greatest slopes.
		{"1,3,1:0,5000,0", []int64{0, 1000000, 0}, 5000, []int64{500000, 0, 500000}, nil}, {"1,3,1:0,5000,4999", []int64{0, 1000000, 0}, 1, []int64{999801, 0, 199}, nil}, {"1,3,1:0,5000,4999", []int64{0, 1000000, 0}, 1001, []int64{1000000, 0, 0}, nil}, {"3,3,1:0,0,0,0,5000,0,0,0,0", repeated(1000000, 9), 5000, []int64{103562, 146441, 103562, 146437, 0, 146437, 103562, 146437, 103562}, []int64{1000000, 1000000, 1000000, 1000000, 0, 1000000, 1000000, 1000000, 1000000}},
	})
}

// TestWhatIsLeftByRounding has masses that their shares do not make up.
func TestWhatIsLeftByRounding(t *testing.T) {
	all, corners, sides := "3,3,10:4,4,4,4,9,4,4,4,4", "3,3,10:4,9,4,9,9,9,4,9,4", "3,3,10:9,4,9,4,9,4,9,4,9"
	of := func(mass int64) []int64 { return []int64{0, 0, 0, 0, mass, 0, 0, 0, 0} }
	checkKnownSteps(t, []knownStep{
		// Four slopes of 500 and four of 354: of several greatest slopes, that to the north has the least direction.
		{all, of(1), 1, []int64{0, 1, 0, 0, 0, 0, 0, 0, 0}, nil}, {all, of(2), 1, []int64{0, 2, 0, 0, 0, 0, 0, 0, 0}, nil}, {all, of(6), 1, []int64{0, 6, 0, 0, 0, 0, 0, 0, 0}, nil}, {all, of(7), 1, []int64{0, 4, 0, 1, 0, 1, 0, 1, 0}, nil}, {all, of(9), 1, []int64{0, 6, 0, 1, 0, 1, 0, 1, 0}, nil}, {all, of(10), 1, []int64{1, 3, 1, 1, 0, 1, 1, 1, 1}, nil}, {all, of(10), 355, []int64{0, 4, 0, 2, 0, 2, 0, 2, 0}, nil}, {all, of(3416), 1, []int64{354, 500, 354, 500, 0, 500, 354, 500, 354}, nil}, {all, of(3415), 1, []int64{353, 506, 353, 499, 0, 499, 353, 499, 353}, nil},
		{corners, of(10), 1, []int64{2, 0, 4, 0, 0, 0, 2, 0, 2}, nil}, {corners, of(3), 354, []int64{0, 0, 3, 0, 0, 0, 0, 0, 0}, nil}, {corners, of(8), 354, []int64{2, 0, 2, 0, 0, 0, 2, 0, 2}, nil}, {corners, of(10), 355, nil, of(10)}, {sides, of(10), 1, []int64{0, 4, 0, 2, 0, 2, 0, 2, 0}, nil}, {sides, of(7), 500, []int64{0, 4, 0, 1, 0, 1, 0, 1, 0}, nil}, {sides, of(7), 501, nil, of(7)},
		// Two as great slopes: north and south, east and west, south and west, south-east and north-west, north-east and a greater fall.
		{"3,1,10:5,9,5", []int64{0, 3, 0}, 1, []int64{2, 0, 1}, nil}, {"1,3,10:5,9,5", []int64{0, 3, 0}, 1, []int64{1, 0, 2}, nil}, {"3,3,10:9,9,9,5,9,9,9,5,9", of(5), 1, []int64{0, 0, 0, 2, 0, 0, 0, 3, 0}, nil}, {"3,3,10:5,9,9,9,9,9,9,9,5", of(5), 1, []int64{2, 0, 0, 0, 0, 0, 0, 0, 3}, nil}, {"3,3,10:5,9,9,9,9,9,5,9,9", of(5), 1, []int64{2, 0, 0, 0, 0, 0, 3, 0, 0}, nil},
		// A diagonal with a greater fall that is as steep by its rounded slope: 50 both.
		{"3,3,100:9,9,2,9,9,4,9,9,9", of(5), 1, []int64{0, 0, 3, 0, 0, 2, 0, 0, 0}, nil}, {"3,3,100:9,9,9,9,9,4,9,9,2", of(5), 1, []int64{0, 0, 0, 0, 0, 3, 0, 0, 2}, nil}, {"3,3,100:2,9,9,4,9,9,9,9,9", of(5), 1, []int64{2, 0, 0, 3, 0, 0, 0, 0, 0}, nil},
		// The steepest one comes last, in the middle, and first by its direction.
		{"3,3,10:9,8,9,6,9,7,9,9,9", of(8), 1, []int64{0, 1, 0, 5, 0, 2, 0, 0, 0}, nil}, {"3,3,10:9,8,9,7,9,6,9,9,9", of(8), 1, []int64{0, 1, 0, 2, 0, 5, 0, 0, 0}, nil}, {"3,3,10:9,6,9,7,9,8,9,9,9", of(8), 1, []int64{0, 5, 0, 2, 0, 1, 0, 0, 0}, nil},
		// Shares that are rounded down to 0, until a mass is great enough for them.
		{"1,3,10:0,10,9", []int64{0, 10, 0}, 1, []int64{10, 0, 0}, nil}, {"1,3,10:0,10,9", []int64{0, 11, 0}, 1, []int64{10, 0, 1}, nil}, {"1,3,10:0,10,9", []int64{0, 21, 0}, 1, []int64{20, 0, 1}, nil}, {"1,3,10:0,10,9", []int64{0, 22, 0}, 1, []int64{20, 0, 2}, nil}, {"1,3,10:9,10,0", []int64{0, 1, 0}, 1, []int64{0, 0, 1}, nil}, {"1,3,1:0,5000,4999", []int64{0, 5000, 0}, 1, []int64{5000, 0, 0}, nil}, {"1,3,1:0,5000,4999", []int64{0, 5001, 0}, 1, []int64{5000, 0, 1}, nil},
	})
}

// TestStepsInWhichAllSettles has flat grids, pits and masses that are all 0.
func TestStepsInWhichAllSettles(t *testing.T) {
	for _, g := range []impl.Grid{flatGrid(1, 1, 0), flatGrid(1, 1, 5000), flatGrid(1, 8, 7), flatGrid(8, 1, 7), flatGrid(3, 5, 2500), flatGrid(8, 8, 5000)} {
		for _, mass := range []int64{0, 1, 2, 999999, 1000000} {
			for _, friction := range []int64{1, 2, 1000, 5000} {
				masses := repeated(mass, len(g.Heights))
				checkRouteStep(t, routeCase{g, masses}, friction, repeated(0, len(masses)), masses)
			}
		}
	}
	for _, c := range routeCases(0) {
		none := repeated(0, len(c.masses))
		checkRouteStep(t, routeCase{c.g, none}, 1, none, none)
		pits, _ := impl.PitsOf(c.g)
		for _, pit := range pits {
			masses := oneMass(c.g, pit, 1000000)
			checkRouteStep(t, routeCase{c.g, masses}, 1, none, masses)
		}
	}
}
