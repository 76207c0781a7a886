package tests

import (
	"fmt"
	"slices"
	"testing"

	"loop.example/g01013/impl"
)

// lowestAsTold returns the first one of the lowest cells among those that are reached.
func lowestAsTold(g impl.Grid, reached []int64) (int64, int64) {
	lowest, code := int64(0), int64(impl.ErrNotFound)
	for _, cell := range reached {
		if code != impl.OK || g.Heights[cell] < g.Heights[lowest] {
			lowest, code = cell, impl.OK
		}
	}
	return lowest, code
}

// dropAsTold returns how far the lowest cell lies below the highest start.
func dropAsTold(c routeCase, lowest int64) int64 {
	highest := int64(-1)
	for cell, mass := range c.masses {
		if mass > 0 {
			highest = max(highest, c.g.Heights[cell])
		}
	}
	return highest - c.g.Heights[lowest]
}

// checkReached checks all answers about the cells that are reached; arrivals holds -1 for a cell that is not.
func checkReached(t *testing.T, c routeCase, friction int64, arrivals []int64) {
	t.Helper()
	what := fmt.Sprint(" of ", c, " with the friction ", friction)
	reached := runTold{arrivals: arrivals}.reached()
	got, code := impl.ReachedBy(c.g, c.masses, friction)
	checkNumbers(t, "ReachedBy"+what, got, code, reached, impl.OK)
	for cell, first := range arrivals {
		wanted := int64(impl.OK)
		if first < 0 {
			first, wanted = 0, impl.ErrNotFound
		}
		got, code := impl.ArrivalOf(c.g, c.masses, friction, int64(cell))
		checkCoded(t, fmt.Sprint("ArrivalOf the cell ", cell, what), got, code, first, wanted)
	}
	lowest, wanted := lowestAsTold(c.g, reached)
	cell, code := impl.LowestOf(c.g, c.masses, friction)
	checkCoded(t, "LowestOf"+what, cell, code, lowest, wanted)
	fall := int64(0)
	if wanted == impl.OK {
		fall = dropAsTold(c, lowest)
	}
	drop, code := impl.DropOf(c.g, c.masses, friction)
	checkCoded(t, "DropOf"+what, drop, code, fall, wanted)
}

func TestReachedCells(t *testing.T) {
	reached, missed := 0, 0
	someRoutes(2, func(c routeCase, all [][]wayDown, friction int64) {
		want := runDown(all, c.masses, friction)
		checkReached(t, c, friction, want.arrivals)
		reached += len(want.reached())
		missed += len(want.arrivals) - len(want.reached())
	})
	if reached < 1000 || missed < 1000 {
		t.Errorf("only %d cells are reached, and %d are not", reached, missed)
	}
}

// TestEveryPositiveMassReaches asks step by step, with masses that are never more than MaxMass.
func TestEveryPositiveMassReaches(t *testing.T) {
	someRoutes(2, func(c routeCase, _ [][]wayDown, friction int64) {
		if totalOf(c.masses) > impl.MaxMass {
			return
		}
		arrivals, masses := repeated(-1, len(c.masses)), c.masses
		for step := int64(0); totalOf(masses) > 0; step++ {
			for cell, mass := range masses {
				if mass > 0 && arrivals[cell] < 0 {
					arrivals[cell] = step
				}
			}
			masses, _, _ = impl.RouteStep(c.g, masses, friction)
		}
		checkReached(t, c, friction, arrivals)
	})
}

func TestKnownReachedCells(t *testing.T) {
	bowl, row := "3,3,10:100,100,100,90,80,90,70,60,75", "1,8,10:8,7,6,5,4,3,2,1"
	fork := "4,3,10:99,40,99,99,30,99,99,20,99,10,99,10"
	for _, known := range []struct {
		text     string
		masses   []int64
		friction int64
		arrivals []int64
	}{
		// Nothing is reached where nothing starts.
		{"1,1,1:0", []int64{0}, 1, []int64{-1}}, {bowl, repeated(0, 9), 1, repeated(-1, 9)}, {row, repeated(0, 8), 5000, repeated(-1, 8)},
		// Only the beginning is reached: one cell, a flat grid, a pit, and a friction that is too great.
		{"1,1,1:0", []int64{1}, 1, []int64{0}}, {"2,2,10:5,5,5,5", []int64{0, 3, 0, 1}, 1, []int64{-1, 0, -1, 0}}, {"1,3,10:9,0,9", []int64{0, 1, 0}, 1, []int64{-1, 0, -1}}, {row, []int64{0, 0, 1, 0, 0, 0, 0, 0}, 101, []int64{-1, -1, 0, -1, -1, -1, -1, -1}}, {bowl, repeated(1, 9), 5000, repeated(0, 9)},
		{row, []int64{1, 0, 0, 0, 0, 0, 0, 0}, 100, []int64{0, 1, 2, 3, 4, 5, 6, 7}}, {row, []int64{0, 0, 0, 1, 0, 0, 0, 0}, 1, []int64{-1, -1, -1, 0, 1, 2, 3, 4}}, {"8,1,10:1,2,3,4,5,6,7,8", []int64{0, 0, 0, 0, 0, 0, 0, 1}, 1, []int64{7, 6, 5, 4, 3, 2, 1, 0}}, {"1,5,10:30,20,11,1,0", []int64{2, 0, 0, 0, 0}, 901, []int64{0, 1, -1, -1, -1}},
		{bowl, []int64{0, 100, 0, 0, 0, 0, 0, 0, 0}, 800, []int64{-1, 0, -1, -1, 1, -1, -1, 2, -1}}, {bowl, []int64{0, 100, 0, 0, 0, 0, 0, 0, 0}, 300, []int64{-1, 0, -1, 1, 1, 1, 2, 2, 2}},
		// A share that is rounded down to 0 does not reach a cell.
		{bowl, []int64{0, 1, 0, 0, 0, 0, 0, 0, 0}, 1, []int64{-1, 0, -1, -1, 1, -1, -1, 2, -1}}, {bowl, []int64{0, 4, 0, 0, 0, 0, 0, 0, 0}, 1, []int64{-1, 0, -1, -1, 1, -1, -1, 2, -1}}, {bowl, []int64{0, 5, 0, 0, 0, 0, 0, 0, 0}, 1, []int64{-1, 0, -1, 1, 1, 1, -1, 2, -1}}, {"1,3,10:0,10,9", []int64{0, 10, 0}, 1, []int64{1, 0, -1}}, {"1,3,10:0,10,9", []int64{0, 11, 0}, 1, []int64{1, 0, 1}},
		// A cell that has a mass at the beginning is reached again, and one is reached in several steps: the first one counts.
		{row, []int64{1, 0, 0, 1, 0, 0, 0, 0}, 1, []int64{0, 1, 2, 0, 1, 2, 3, 4}}, {"1,3,10:10,5,0", []int64{4, 2, 0}, 1, []int64{0, 0, 1}}, {"1,3,10:10,5,0", []int64{4, 0, 0}, 1, []int64{0, 1, 2}}, {"1,5,10:9,8,0,7,9", []int64{1, 0, 0, 1, 0}, 1, []int64{0, 1, 1, 0, -1}}, {"1,5,10:9,8,0,7,9", []int64{1, 0, 0, 0, 1}, 1, []int64{0, 1, 2, 1, 0}},
		// Two masses of 1 pass the fork one after the other, or as one.
		{fork, []int64{0, 1, 0, 0, 1, 0, 0, 0, 0, 0, 0, 0}, 1, []int64{-1, 0, -1, -1, 0, -1, -1, 1, -1, -1, -1, 2}}, {fork, []int64{0, 0, 0, 0, 2, 0, 0, 0, 0, 0, 0, 0}, 1, []int64{-1, -1, -1, -1, 0, -1, -1, 1, -1, 2, -1, 2}},
	} {
		checkReached(t, routeCase{gridFrom(t, known.text), known.masses}, known.friction, known.arrivals)
	}
}

func TestKnownLowestCells(t *testing.T) {
	for _, known := range []struct {
		text                   string
		masses                 []int64
		friction, lowest, drop int64
	}{
		{"1,1,1:0", []int64{1}, 1, 0, 0}, {"1,1,1:5000", []int64{1}, 5000, 0, 0}, {"1,2,1:5000,0", []int64{1, 0}, 1, 1, 5000}, {"1,2,1:5000,0", []int64{0, 1}, 1, 1, 0}, {"1,2,1:5000,0", []int64{1, 1}, 1, 1, 5000}, {"1,2,1:4,0", []int64{1, 0}, 4001, 0, 0}, {"1,2,1:4,0", []int64{1, 1}, 4001, 1, 4},
		// Several lowest cells are reached: the first one counts, in which step ever it is reached.
		{"1,3,10:0,9,0", []int64{0, 2, 0}, 1, 0, 9}, {"1,3,10:0,9,0", []int64{0, 1, 0}, 1, 2, 9}, {"1,3,10:0,9,0", []int64{0, 0, 4}, 1, 2, 0}, {"1,3,10:0,9,0", []int64{4, 0, 4}, 1, 0, 0}, {"2,2,10:7,7,7,7", []int64{0, 1, 1, 1}, 1, 1, 0}, {"2,2,10:7,7,7,7", []int64{1, 0, 0, 1}, 1, 0, 0}, {"1,6,10:0,2,4,0,9,9", []int64{0, 0, 2, 0, 0, 0}, 1, 3, 4}, {"1,6,10:0,2,4,0,9,9", []int64{0, 0, 5, 0, 0, 0}, 1, 0, 4}, {"3,3,10:4,4,4,4,9,4,4,4,4", []int64{0, 0, 0, 0, 7, 0, 0, 0, 0}, 1, 1, 5}, {"3,3,10:4,4,4,4,9,4,4,4,4", []int64{0, 0, 0, 0, 10, 0, 0, 0, 0}, 1, 0, 5},
		// The lowest cell of the grid is not reached, and its highest one is no start.
		{"1,5,10:0,9,5,9,0", []int64{0, 0, 3, 0, 0}, 1, 2, 0}, {"1,5,10:0,9,5,9,2", []int64{0, 0, 0, 3, 0}, 1, 4, 7}, {"1,7,10:50,40,30,60,20,45,5", []int64{0, 2, 0, 0, 0, 1, 0}, 1, 6, 40}, {"1,7,10:50,40,30,60,20,45,5", []int64{0, 1, 0, 0, 1, 0, 0}, 1, 4, 20}, {"1,7,10:50,40,30,60,20,45,5", []int64{0, 0, 0, 0, 1, 1, 0}, 3000, 6, 40}, {"1,7,10:50,40,30,60,20,45,5", []int64{0, 1, 0, 0, 0, 1, 0}, 5000, 1, 5},
		// The highest start lies beside the way to the lowest cell.
		{"1,5,10:90,80,85,3,4", []int64{5, 0, 0, 0, 5}, 1, 3, 87}, {"1,5,10:90,80,85,3,4", []int64{0, 5, 5, 0, 0}, 1, 3, 82}, {"1,5,10:90,80,85,3,4", []int64{0, 0, 0, 5, 5}, 101, 3, 1},
	} {
		c := routeCase{gridFrom(t, known.text), known.masses}
		lowest, code := impl.LowestOf(c.g, c.masses, known.friction)
		checkCoded(t, fmt.Sprint("LowestOf ", known), lowest, code, known.lowest, impl.OK)
		drop, code := impl.DropOf(c.g, c.masses, known.friction)
		checkCoded(t, fmt.Sprint("DropOf ", known), drop, code, known.drop, impl.OK)
	}
}

// TestWhatIsReachedHoldsTogether compares the answers about the same run with each other.
func TestWhatIsReachedHoldsTogether(t *testing.T) {
	someRoutes(2, func(c routeCase, _ [][]wayDown, friction int64) {
		reached, _ := impl.ReachedBy(c.g, c.masses, friction)
		settled, steps, _ := impl.RunMass(c.g, c.masses, friction)
		last := int64(-1)
		for cell, mass := range settled {
			first, code := impl.ArrivalOf(c.g, c.masses, friction, int64(cell))
			if isReached := slices.Contains(reached, int64(cell)); isReached != (code == impl.OK) || mass > 0 && !isReached {
				t.Errorf("%v says that the cell %d is reached in %d, %d, and %d settle there", c, cell, first, code, mass)
			}
			if (code == impl.OK && first == 0) != (c.masses[cell] > 0) {
				t.Errorf("the cell %d of %v is reached in the step %d", cell, c, first)
			}
			if code == impl.OK {
				last = max(last, first)
			}
		}
		// What comes to a cell first still needs a step to go on or to settle.
		if steps < last+1 {
			t.Errorf("%v has %d steps, and a cell is reached in the step %d", c, steps, last)
		}
	})
}
