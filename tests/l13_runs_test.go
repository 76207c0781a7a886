package tests

import (
	"fmt"
	"slices"
	"testing"

	"loop.example/g01013/impl"
)

func checkRunMass(t *testing.T, c routeCase, friction int64, want []int64, wantSteps int64) {
	t.Helper()
	settled, steps, code := impl.RunMass(c.g, c.masses, friction)
	if !slices.Equal(settled, want) || steps != wantSteps || code != impl.OK {
		t.Errorf("RunMass of %v with the friction %d = %v, %d, %d, want %v, %d", c, friction, settled, steps, code, want, wantSteps)
	}
}

func TestRunMass(t *testing.T) {
	longest := int64(0)
	eachRoute(4, func(c routeCase, all [][]wayDown, friction int64) {
		want := runDown(all, c.masses, friction)
		checkRunMass(t, c, friction, want.settled, want.steps)
		longest = max(longest, want.steps)
	})
	if longest < 8 {
		t.Errorf("no run has more than %d steps", longest)
	}
}

// TestAllThatStartsSettles is the second half of the fourteenth promise.
func TestAllThatStartsSettles(t *testing.T) {
	eachRoute(4, func(c routeCase, all [][]wayDown, friction int64) {
		started, _ := impl.TotalMass(c.g, c.masses)
		settled, steps, code := impl.RunMass(c.g, c.masses, friction)
		if got := totalOf(settled); got != started || code != impl.OK {
			t.Errorf("of %d of %v, %d settle with the friction %d", started, c, got, friction)
		}
		if (steps == 0) != (started == 0) || steps > int64(len(c.masses)) {
			t.Errorf("%v has %d steps with the friction %d", c, steps, friction)
		}
		for cell, mass := range settled {
			isOpen := slices.ContainsFunc(all[cell], func(way wayDown) bool { return way.slope >= friction })
			if mass < 0 || mass > 0 && isOpen {
				t.Errorf("%d settle in the cell %d of %v with the friction %d", mass, cell, c, friction)
			}
		}
	})
}

// TestRunsAreRepeatedSteps calls RouteStep with what has moved on, which is never more than MaxMass here.
func TestRunsAreRepeatedSteps(t *testing.T) {
	runs := 0
	eachRoute(4, func(c routeCase, _ [][]wayDown, friction int64) {
		if totalOf(c.masses) > impl.MaxMass {
			return
		}
		settled, steps, masses := repeated(0, len(c.masses)), int64(0), c.masses
		for ; totalOf(masses) > 0; steps++ {
			moved, stayed, code := impl.RouteStep(c.g, masses, friction)
			if code != impl.OK {
				t.Fatalf("RouteStep of %v and %v = %d", c.g, masses, code)
			}
			for cell, mass := range stayed {
				settled[cell] += mass
			}
			masses = moved
		}
		checkRunMass(t, c, friction, settled, steps)
		runs++
	})
	if runs < 1000 {
		t.Errorf("only %d runs", runs)
	}
}

func TestKnownRunsOfMass(t *testing.T) {
	bowl, row := "3,3,10:100,100,100,90,80,90,70,60,75", "1,8,10:8,7,6,5,4,3,2,1"
	column := "8,1,10:1,2,3,4,5,6,7,8"
	for _, known := range []struct {
		text     string
		masses   []int64
		friction int64
		settled  []int64
		steps    int64
	}{
		// Nothing starts.
		{"1,1,1:0", []int64{0}, 1, []int64{0}, 0}, {bowl, repeated(0, 9), 1, repeated(0, 9), 0}, {row, repeated(0, 8), 5000, repeated(0, 8), 0}, {"3,3,1:5,5,5,5,5,5,5,5,5", repeated(0, 9), 1, repeated(0, 9), 0},
		// All settles at once: one cell, a flat grid, pits, and slopes that are less than the friction.
		{"1,1,1:0", []int64{1000000}, 1, []int64{1000000}, 1}, {"1,1,100:5000", []int64{1}, 5000, []int64{1}, 1}, {"2,2,10:5,5,5,5", []int64{1, 0, 0, 7}, 1, []int64{1, 0, 0, 7}, 1}, {"1,3,10:0,9,0", []int64{4, 0, 5}, 1, []int64{4, 0, 5}, 1}, {row, []int64{1, 2, 3, 4, 5, 6, 7, 8}, 101, []int64{1, 2, 3, 4, 5, 6, 7, 8}, 1},
		// A row and a column, from one end to the other one.
		{row, []int64{5, 0, 0, 0, 0, 0, 0, 0}, 100, []int64{0, 0, 0, 0, 0, 0, 0, 5}, 8}, {row, repeated(1000000, 8), 1, []int64{0, 0, 0, 0, 0, 0, 0, 8000000}, 8}, {row, []int64{0, 0, 0, 0, 0, 0, 1, 0}, 1, []int64{0, 0, 0, 0, 0, 0, 0, 1}, 2}, {row, []int64{0, 0, 0, 0, 0, 0, 0, 9}, 1, []int64{0, 0, 0, 0, 0, 0, 0, 9}, 1}, {column, []int64{0, 0, 0, 0, 0, 0, 0, 5}, 100, []int64{5, 0, 0, 0, 0, 0, 0, 0}, 8}, {column, []int64{0, 0, 1, 0, 0, 3, 0, 0}, 1, []int64{4, 0, 0, 0, 0, 0, 0, 0}, 6},
		// The last slope is less than the friction, then another one, too.
		{"1,5,10:30,20,11,1,0", []int64{1, 0, 2, 0, 0}, 100, []int64{0, 0, 0, 0, 3}, 5}, {"1,5,10:30,20,11,1,0", []int64{1, 0, 2, 0, 0}, 101, []int64{0, 0, 0, 3, 0}, 4}, {"1,5,10:30,20,11,1,0", []int64{1, 0, 2, 0, 0}, 900, []int64{0, 0, 0, 3, 0}, 4}, {"1,5,10:30,20,11,1,0", []int64{1, 0, 2, 0, 0}, 901, []int64{0, 1, 0, 2, 0}, 2},
		{bowl, []int64{0, 100, 0, 0, 0, 0, 0, 0, 0}, 800, []int64{0, 0, 0, 0, 0, 0, 0, 100, 0}, 3}, {bowl, []int64{0, 100, 0, 0, 0, 0, 0, 0, 0}, 2001, []int64{0, 100, 0, 0, 0, 0, 0, 0, 0}, 1}, {bowl, repeated(10, 9), 1, []int64{0, 0, 0, 0, 0, 0, 0, 90, 0}, 4}, {bowl, repeated(10, 9), 2100, []int64{10, 10, 10, 0, 10, 0, 10, 30, 10}, 2},
		// A cell has a mass at the beginning and gets another one later.
		{"1,3,10:10,5,0", []int64{4, 2, 0}, 1, []int64{0, 0, 6}, 3}, {"1,3,10:10,5,0", []int64{4, 2, 1}, 1, []int64{0, 0, 7}, 3}, {"1,3,10:10,5,4", []int64{4, 2, 0}, 101, []int64{0, 6, 0}, 2},
		// A mass of 1 passes a fork twice, each time to the south-east; as one mass of 2, it would be divided.
		{"4,3,10:99,40,99,99,30,99,99,20,99,10,99,10", []int64{0, 1, 0, 0, 1, 0, 0, 0, 0, 0, 0, 0}, 1, []int64{0, 0, 0, 0, 0, 0, 0, 0, 0, 0, 0, 2}, 4}, {"4,3,10:99,40,99,99,30,99,99,20,99,10,99,10", []int64{0, 0, 0, 0, 2, 0, 0, 0, 0, 0, 0, 0}, 1, []int64{0, 0, 0, 0, 0, 0, 0, 0, 0, 1, 0, 1}, 3},
		// Two masses of 1 come to the fork in the same step and are divided as one.
		{"4,3,10:99,99,99,30,99,30,99,20,99,10,99,10", []int64{0, 0, 0, 1, 0, 1, 0, 0, 0, 0, 0, 0}, 1, []int64{0, 0, 0, 0, 0, 0, 0, 0, 0, 1, 0, 1}, 3},
	} {
		checkRunMass(t, routeCase{gridFrom(t, known.text), known.masses}, known.friction, known.settled, known.steps)
	}
}

// TestLongRuns has a way that winds between walls, and leaves out only the corners at their gaps.
func TestLongRuns(t *testing.T) {
	g := flatGrid(8, 8, 5000)
	way := []int64{}
	for row := int64(0); row < 8; row += 2 {
		for i := range int64(8) {
			way = append(way, row*8+[]int64{i, 7 - i}[row/2%2])
		}
		way = append(way, (row+1)*8+[]int64{7, 0}[row/2%2])
	}
	for i, cell := range way {
		g.Heights[cell] = 4000 - 10*int64(i)
	}
	all := waysDownAsTold(g)
	for _, friction := range []int64{1, 707, 708, 1000} {
		for _, mass := range []int64{1, 1000, 1000000} {
			c := routeCase{g, oneMass(g, 0, mass)}
			want := runDown(all, c.masses, friction)
			if want.steps < 25 {
				t.Fatalf("with the friction %d, the run has only %d steps", friction, want.steps)
			}
			checkRunMass(t, c, friction, want.settled, want.steps)
			got, code := impl.ReachedBy(g, c.masses, friction)
			checkNumbers(t, fmt.Sprint("ReachedBy of the long way with the friction ", friction), got, code, want.reached(), impl.OK)
		}
	}
}
