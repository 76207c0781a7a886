package tests

import (
	"fmt"
	"testing"

	"loop.example/g01013/impl"
)

// startAsTold goes through the parts from the last one on, and asks how much must have come into each one.
func startAsTold(list []impl.Part, share, goal int64) int64 {
	for k := len(list) - 1; k >= 0; k-- {
		if snow := partSnowAsTold(list[k], share); 2*snow >= goal {
			goal = (goal + 1) / 2
		} else {
			goal -= snow
		}
	}
	return goal
}

// isEnough says by GrowthOf whether a mass leads to a goal.
func isEnough(list []impl.Part, tonnes, share, goal int64) bool {
	masses, code := impl.GrowthOf(list, tonnes, share)
	masses = append([]int64{tonnes}, masses...)
	return code == impl.ErrState || masses[len(masses)-1] >= goal
}

// checkStart checks the second half of the thirteenth promise, too.
func checkStart(t *testing.T, list []impl.Part, share, goal, want int64) {
	t.Helper()
	got, code := impl.LeastStart(list, share, goal)
	checkCoded(t, fmt.Sprint("LeastStart ", list, share, goal), got, code, want, impl.OK)
	if !isEnough(list, got, share, goal) || got > 0 && isEnough(list, got-1, share, goal) {
		t.Errorf("LeastStart(%v, %d, %d) = %d is not just enough", list, share, goal, got)
	}
}

func TestLeastStart(t *testing.T) {
	for _, list := range goodPaths() {
		for _, share := range someGrowthShares() {
			for _, goal := range append(someTonnes(), 3, 7, 40, 41, 777, 5000000, 95000000) {
				checkStart(t, list, share, goal, startAsTold(list, share, goal))
			}
		}
	}
}

// TestLeastStartOfSmallGoals tries all masses from 0 on.
func TestLeastStartOfSmallGoals(t *testing.T) {
	for _, list := range [][]impl.Part{nil, pathWith(1), pathWith(7), pathWith(20, 3), pathWith(3, 20), pathWith(5, 0, 9, 2), pathWith(40, 40, 40), pathOf(goodPart(), 24)} {
		for _, share := range []int64{0, 100, 500, 1000} {
			want := int64(0)
			for goal := range int64(200) {
				for !isEnough(list, want, share, goal) {
					want++
				}
				checkStart(t, list, share, goal, want)
			}
		}
	}
}

func TestKnownLeastStarts(t *testing.T) {
	good := []impl.Part{goodPart()}
	for _, known := range []struct {
		list              []impl.Part
		share, goal, want int64
	}{
		{nil, 0, 0, 0}, {nil, 1000, 0, 0}, {nil, 1000, 1, 1}, {nil, 1000, 70, 70}, {nil, 1000, 100000000, 100000000}, {[]impl.Part{}, 0, 99999999, 99999999},
		{good, 100, 70, 50}, {good, 100, 0, 0}, {good, 100, 1, 1}, {good, 100, 2, 1}, {good, 100, 3, 2}, {good, 100, 38, 19}, {good, 100, 39, 20}, {good, 100, 40, 20}, {good, 100, 41, 21}, {good, 100, 42, 22}, {good, 0, 70, 70}, {good, 1000, 70, 35}, {good, 1000, 400, 200}, {good, 1000, 401, 201},
		{pathWith(0, 0), 1000, 70, 70}, {pathWith(8, 8, 8), 1000, 8, 1}, {pathWith(8, 8, 8), 1000, 9, 2}, {pathWith(8, 8, 8), 1000, 16, 2}, {pathWith(8, 8, 8), 1000, 17, 3}, {pathWith(8, 8, 8), 1000, 100, 76}, {pathOf(greatestPart(), 24), 1000, 1, 1}, {pathOf(greatestPart(), 24), 1000, 8388608, 1},
		// A mass leads just to MaxTonnes.
		{good, 1000, 100000000, 99999800}, {good, 0, 100000000, 100000000}, {pathWith(1), 1000, 100000000, 99999999}, {pathOf(greatestPart(), 19), 1000, 100000000, 5000000}, {pathOf(greatestPart(), 19), 1000, 99999999, 5000000}, {pathOf(greatestPart(), 19), 1000, 99999998, 4999999},
	} {
		checkStart(t, known.list, known.share, known.goal, known.want)
	}
}

// TestStartsThatBecomeTooGreat has goals that no mass leads to without becoming greater than MaxTonnes.
func TestStartsThatBecomeTooGreat(t *testing.T) {
	// The mass doubles in the first part, so that 100000000 lies between the masses that two beginnings lead to.
	tooGreatInTheLast := append(pathOf(greatestPart(), 19), partWith(1))
	tooGreatBefore := append(append([]impl.Part{greatestPart(), partWith(1)}, pathOf(greatestPart(), 18)...), leastPart(), leastPart())
	for _, list := range [][]impl.Part{tooGreatInTheLast, tooGreatBefore} {
		checkStart(t, list, 1000, 100000000, 5000000)
		got, code := impl.GrowthOf(list, 5000000, 1000)
		checkNumbers(t, "GrowthOf the least start", got, code, nil, impl.ErrState)
		got, code = impl.GrowthOf(list, 4999999, 1000)
		if code != impl.OK || got[len(list)-1] != 99999999 {
			t.Errorf("GrowthOf one less = %v, %d", got, code)
		}
		// A goal of one tonne less is one that the lesser beginning leads to.
		checkStart(t, list, 1000, 99999999, 4999999)
	}
}
