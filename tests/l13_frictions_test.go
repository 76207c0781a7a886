package tests

import (
	"fmt"
	"math/rand/v2"
	"slices"
	"testing"

	"loop.example/g01013/impl"
)

// leastFrictions returns for each cell the least friction with which it is not reached, and 0 where there is none. It tries
// all frictions one after the other.
func leastFrictions(all [][]wayDown, masses []int64) []int64 {
	least := repeated(0, len(masses))
	for friction := int64(5000); friction >= 1; friction-- {
		for cell, first := range runDown(all, masses, friction).arrivals {
			if first < 0 {
				least[cell] = friction
			}
		}
	}
	return least
}

func checkFrictions(t *testing.T, c routeCase, least []int64) {
	t.Helper()
	for cell, want := range least {
		wanted := int64(impl.OK)
		if want == 0 {
			wanted = impl.ErrNotFound
		}
		if c.masses[cell] > 0 {
			want, wanted = 0, impl.ErrState
		}
		got, code := impl.FrictionFor(c.g, c.masses, int64(cell))
		checkCoded(t, fmt.Sprint("FrictionFor ", c, cell), got, code, want, wanted)
	}
}

// smallRoutes holds grids of few cells whose slopes lie within the frictions, and beyond them.
func smallRoutes(count int) []routeCase {
	mix := rand.New(rand.NewPCG(1313, 2026))
	cases := []routeCase{}
	for range count {
		g := flatGrid(1+mix.Int64N(4), 1+mix.Int64N(4), 0)
		g.Size = []int64{1, 7, 10, 50, 100}[mix.IntN(5)]
		for cell := range g.Heights {
			g.Heights[cell] = mix.Int64N([]int64{3, 10, 30, 6 * g.Size}[mix.IntN(4)])
		}
		masses := oneMass(g, mix.Int64N(int64(len(g.Heights))), 1+mix.Int64N(12))
		masses[mix.IntN(len(masses))] += mix.Int64N(3)
		cases = append(cases, routeCase{g, masses})
	}
	return cases
}

func TestFrictionFor(t *testing.T) {
	for _, c := range smallRoutes(60) {
		checkFrictions(t, c, leastFrictions(waysDownAsTold(c.g), c.masses))
	}
}

// TestLeastFrictionIsJustEnough looks at the cells that are reached with the least friction, and with all below.
func TestLeastFrictionIsJustEnough(t *testing.T) {
	found := 0
	for _, c := range append(smallRoutes(400), routeCases(1)[:400]...) {
		for cell := range int64(len(c.masses)) {
			least, code := impl.FrictionFor(c.g, c.masses, cell)
			tried := []int64{1, least - 1, least / 2}
			if code == impl.OK {
				found++
				if _, missed := impl.ArrivalOf(c.g, c.masses, least, cell); missed != impl.ErrNotFound {
					t.Errorf("the cell %d of %v is reached with the friction %d, %d", cell, c, least, missed)
				}
			} else {
				tried = []int64{1, 2500, 5000}
			}
			for _, friction := range tried {
				if friction < 1 || code == impl.OK && friction >= least {
					continue
				}
				if _, reached := impl.ArrivalOf(c.g, c.masses, friction, cell); reached != impl.OK {
					t.Errorf("the cell %d of %v is not reached with the friction %d, and the least one is %d, %d", cell, c, friction, least, code)
				}
			}
		}
	}
	if found < 1000 {
		t.Errorf("only %d cells have a least friction", found)
	}
}

func TestKnownFrictions(t *testing.T) {
	bowl := "3,3,10:100,100,100,90,80,90,70,60,75"
	for _, known := range []struct {
		text   string
		masses []int64
		least  []int64
	}{
		// A cell where a mass starts has none, but for a mass of 0; and no friction is needed where nothing starts.
		{"1,1,1:0", []int64{0}, []int64{1}}, {"1,1,1:0", []int64{1}, []int64{0}}, {"1,2,10:5,0", []int64{0, 0}, []int64{1, 1}}, {bowl, repeated(0, 9), repeated(1, 9)}, {bowl, repeated(1000000, 9), repeated(0, 9)},
		{"1,2,10:5,0", []int64{1, 0}, []int64{0, 501}}, {"1,2,10:5,0", []int64{0, 1}, []int64{1, 0}}, {"2,2,100:1,9,9,0", []int64{1, 0, 0, 0}, []int64{0, 1, 1, 8}}, {"2,2,10:5,5,5,5", []int64{0, 1, 0, 0}, []int64{1, 0, 1, 1}},
		// The slopes 4999, 5000 and one that is greater: with the last two ones, a cell is reached with every friction.
		{"2,2,29:205,999,999,0", []int64{1, 0, 0, 0}, []int64{0, 1, 1, 5000}}, {"1,2,1:5,0", []int64{1, 0}, []int64{0, 0}}, {"1,2,1:6,0", []int64{1, 0}, []int64{0, 0}}, {"1,2,1:4,0", []int64{1, 0}, []int64{0, 4001}}, {"1,2,1:5000,0", []int64{1, 0}, []int64{0, 0}}, {"2,1,100:0,499", []int64{0, 1}, []int64{4991, 0}},
		{bowl, []int64{0, 100, 0, 0, 0, 0, 0, 0, 0}, []int64{1, 0, 1, 708, 2001, 708, 708, 2001, 708}},
		// The least slope on the way to a cell counts.
		{"1,5,10:30,20,11,1,0", []int64{1, 0, 0, 0, 0}, []int64{0, 1001, 901, 901, 101}}, {"1,5,10:30,29,11,1,0", []int64{1, 0, 0, 0, 0}, []int64{0, 101, 101, 101, 101}}, {"1,5,10:0,1,11,29,30", []int64{0, 0, 0, 0, 7}, []int64{101, 101, 101, 101, 0}},
		// Of two ways the one with the greater least slope counts.
		{"3,3,10:50,45,99,30,99,35,99,20,10", []int64{1000, 0, 0, 0, 0, 0, 0, 0, 0}, []int64{0, 501, 1, 2001, 1, 501, 1, 708, 708}}, {"2,3,10:20,15,5,19,14,99", []int64{300, 0, 0, 0, 0, 0}, []int64{0, 501, 501, 101, 425, 1}},
		// Where a share is rounded down to 0, a cell is not reached with any friction, as long as none shuts another way out.
		{"1,3,10:0,10,9", []int64{0, 10, 0}, []int64{1001, 0, 1}}, {"1,3,10:0,10,9", []int64{0, 11, 0}, []int64{1001, 0, 101}},
		// With the frictions 501 to 600, nothing goes to the cell 4, and more to the cell 6, so that the cell 11 is reached: but with less friction it is not.
		{"3,4,10:99,99,99,99,25,30,24,15,99,99,99,15", []int64{0, 0, 0, 0, 0, 3, 0, 0, 0, 0, 0, 0}, []int64{1, 1, 1, 1, 501, 0, 601, 601, 1, 1, 1, 1}},
	} {
		checkFrictions(t, routeCase{gridFrom(t, known.text), known.masses}, known.least)
	}
}

// TestReachedOnlyWithMoreFriction shows that cells are reached with one friction, and not with lesser and greater ones.
func TestReachedOnlyWithMoreFriction(t *testing.T) {
	c := routeCase{gridFrom(t, "3,4,10:99,99,99,99,25,30,24,15,99,99,99,15"), oneMass(flatGrid(3, 4, 0), 5, 3)}
	for _, friction := range []int64{1, 500, 501, 600, 601, 5000} {
		got, code := impl.ReachedBy(c.g, c.masses, friction)
		if want := friction == 501 || friction == 600; slices.Contains(got, 11) != want || code != impl.OK {
			t.Errorf("ReachedBy of %v with the friction %d = %v, %d", c, friction, got, code)
		}
	}
}
