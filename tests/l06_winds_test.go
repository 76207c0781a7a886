package tests

import (
	"slices"
	"testing"

	"loop.example/g01013/impl"
)

// worstAsTold asks all directions what they add to a cell, from the last one on, so that the least one of several stays.
func worstAsTold(f impl.Field, share, cell int64) (worst, most, code int64) {
	code = impl.ErrState
	for direction := int64(3); direction >= 0; direction-- {
		gains, failure := gainAsTold(f, []int64{direction}, share)
		if failure == impl.OK && (code != impl.OK || gains[cell] >= most) {
			worst, most, code = direction, gains[cell], impl.OK
		}
	}
	return worst, most, code
}

func checkWorst(t *testing.T, f impl.Field, share, cell, direction, most, wanted int64) {
	t.Helper()
	got, gain, code := impl.WorstWind(f, share, cell)
	if got != direction || gain != most || code != wanted {
		t.Errorf("WorstWind(%v, %d, %d) = %d, %d, %d, want %d, %d, %d", f, share, cell, got, gain, code, direction, most, wanted)
	}
}

func TestWorstWind(t *testing.T) {
	fields := slices.Concat(goodFields(), mixedFields(1), smallFields())
	for _, f := range fields {
		for _, share := range []int64{0, 1, 500, 1000} {
			for cell := range f.Rows * f.Columns {
				// Of a large field, some cells are enough.
				if cell > 9 && cell%7 != 0 {
					continue
				}
				direction, most, code := worstAsTold(f, share, cell)
				checkWorst(t, f, share, cell, direction, most, code)
			}
		}
	}
}

func TestKnownWinds(t *testing.T) {
	for _, c := range []struct {
		field                        string
		share, cell, direction, most int64
	}{
		{"2x1 1000,0", 500, 1, 0, 500}, {"2x1 0,1000", 500, 0, 2, 500}, {"1x2 1000,0", 500, 1, 3, 500}, {"1x2 0,1000", 500, 0, 1, 500}, {"3x3 0,9,0,8,0,6,0,7,0", 1000, 4, 0, 9}, {"3x3 0,6,0,8,0,9,0,7,0", 1000, 4, 1, 9}, {"3x3 0,7,0,6,0,8,0,9,0", 1000, 4, 2, 9}, {"3x3 0,8,0,9,0,7,0,6,0", 1000, 4, 3, 9},
		// Several directions add as much.
		{"3x3 0,9,0,9,0,9,0,9,0", 1000, 4, 0, 9}, {"3x3 0,8,0,9,0,9,0,9,0", 1000, 4, 1, 9}, {"3x3 0,8,0,9,0,8,0,9,0", 1000, 4, 2, 9}, {"1x1 7", 1000, 0, 0, 0}, {"3x3 1,2,3,4,5,6,7,8,9", 0, 4, 0, 0}, {"2x2 1000,0,0,0", 500, 0, 1, 0}, {"2x2 0,0,0,1000", 500, 3, 0, 0},
		// The cell gives more than it gets, from wherever wind comes.
		{"3x3 0,0,0,0,1000,0,0,0,0", 500, 4, 0, -500}, {"3x3 0,9,0,8,1000,6,0,7,0", 500, 4, 0, -495}, {"3x3 0,6,0,8,1000,9,0,7,0", 1000, 4, 1, -991}, {"3x3 0,0,0,0,1000000,0,0,0,0", 1000, 4, 0, -1000000},
		// Directions with which a step fails do not count.
		{"2x1 1,1000000", 1000, 1, 1, 0}, {"2x1 1,1000000", 1000, 0, 1, 0}, {"4x3 0,0,0,0,10,0,1,0,0,1000000,0,0", 1000, 4, 1, -10}, {"3x3 0,0,0,1,10,0,1000000,0,0", 1000, 4, 3, -9}, {"3x3 0,0,0,1,10,5,1000000,0,0", 500, 4, 1, -2}, {"2x2 1000000,1000000,0,0", 1000, 2, 0, 1000000}, {"3x2 9,0,5,1,1000000,0", 1000, 2, 2, 999995}, {"2x3 1,0,9,1000000,0,0", 1000, 4, 3, 1000000},
		{"3x1 1000000,1000000,0", 1000, 2, 0, 1000000}, {"3x1 1000000,1000000,0", 1000, 0, 1, 0}, {"3x1 1000000,0,0", 1000, 0, 1, 0}, {"2x1 999999,1", 1000, 1, 0, 999999},
	} {
		checkWorst(t, fieldFrom(t, c.field), c.share, c.cell, c.direction, c.most, impl.OK)
	}
}

func TestWindsThatAllFail(t *testing.T) {
	for _, f := range []impl.Field{evenField(2, 2, impl.MaxDrift), evenField(8, 8, impl.MaxDrift), evenField(2, 3, impl.MaxDrift-1)} {
		for cell := range f.Rows * f.Columns {
			checkWorst(t, f, 1000, cell, 0, 0, impl.ErrState)
			checkWorst(t, f, 0, cell, 0, 0, impl.OK)
		}
	}
	// With one row or column, two directions move nothing.
	checkWorst(t, evenField(1, 8, impl.MaxDrift), 1000, 7, 0, 0, impl.OK)
	checkWorst(t, evenField(8, 1, impl.MaxDrift), 1000, 7, 1, 0, impl.OK)
}

func TestErrorsOfWorstWind(t *testing.T) {
	// With the share 1000, all steps of the second field fail.
	for _, f := range []impl.Field{fieldOf(1, 1, 5), evenField(2, 2, impl.MaxDrift), fieldOf(2, 3, 1, 2, 3, 4, 5, 6), evenField(8, 8, 3)} {
		cells := f.Rows * f.Columns
		for _, cell := range append(otherNumbers(), -1, cells, cells+1, 64, 65) {
			for _, share := range append(otherShares(), 0, 1000) {
				checkWorst(t, f, share, cell, 0, 0, impl.ErrRange)
			}
		}
		for _, share := range otherShares() {
			checkWorst(t, f, share, 0, 0, 0, impl.ErrRange)
			checkWorst(t, f, share, cells-1, 0, 0, impl.ErrRange)
		}
	}
	for _, f := range badFields() {
		for _, cell := range []int64{-1, 0, 1, 64} {
			for _, share := range []int64{-1, 0, 1000, 1001} {
				checkWorst(t, f, share, cell, 0, 0, impl.ErrInvalid)
			}
		}
	}
}

// settledAfter goes on with steps until one changes no mass by more than limit.
func settledAfter(f impl.Field, share, limit int64) (int64, int64) {
	for steps := int64(0); steps <= 100; steps++ {
		after, ok := driftedAsTold(f, 0, share)
		if !ok {
			return 0, impl.ErrState
		}
		moves := false
		for cell, mass := range after.Masses {
			moves = moves || mass > f.Masses[cell]+limit || mass < f.Masses[cell]-limit
		}
		if !moves {
			return steps, impl.OK
		}
		f = after
	}
	return 0, impl.ErrNotFound
}

func checkSettledField(t *testing.T, f impl.Field, share, limit, want, wanted int64) {
	t.Helper()
	if got, code := impl.SettledField(f, share, limit); got != want || code != wanted {
		t.Errorf("SettledField(%v, %d, %d) = %d, %d, want %d, %d", f, share, limit, got, code, want, wanted)
	}
}

func TestSettledField(t *testing.T) {
	counts := map[int64]int{}
	for _, f := range slices.Concat(goodFields(), mixedFields(1), fieldsWith(3, 1, []int64{0, 1, 3, 999999, 1000000})) {
		for _, share := range []int64{0, 1, 10, 100, 500, 1000} {
			for _, limit := range []int64{0, 1, 7, 1000, 60000, 999999, 1000000} {
				want, code := settledAfter(f, share, limit)
				checkSettledField(t, f, share, limit, want, code)
				counts[code]++
			}
		}
	}
	if counts[impl.OK] == 0 || counts[impl.ErrState] == 0 || counts[impl.ErrNotFound] == 0 {
		t.Errorf("not all codes are asked for: %v", counts)
	}
}

func TestKnownSettledFields(t *testing.T) {
	for _, c := range []struct {
		field              string
		share, limit, want int64
	}{
		{"2x1 1000,0", 500, 100, 3}, {"2x1 1000,0", 500, 125, 2}, {"2x1 1000,0", 500, 126, 2}, {"2x1 1000,0", 500, 124, 3}, {"2x1 1000,0", 500, 0, 10}, {"2x1 1000,0", 1000, 0, 1},
		// At once: nothing moves, or nothing moves more than the limit.
		{"2x1 1000,0", 0, 0, 0}, {"2x1 1000,0", 500, 500, 0}, {"2x1 1000,0", 500, 499, 1}, {"2x1 0,1000", 1000, 0, 0}, {"1x8 1,2,3,4,5,6,7,8", 1000, 0, 0}, {"1x1 1000000", 1000, 0, 0}, {"2x1 1000000,0", 1000, 1000000, 0}, {"2x1 1000000,0", 1000, 999999, 1}, {"3x3 0,0,0,0,0,0,0,0,0", 1000, 0, 0}, {"2x1 499,0", 1, 0, 0}, {"2x1 500,0", 1, 0, 1},
		// A cell in the middle may gain as much as it gives, and a loss or a gain alone may be too much.
		{"3x1 1000,1000,0", 500, 500, 0}, {"3x1 1000,1000,0", 500, 499, 2}, {"4x1 0,1000,300,0", 500, 500, 0}, {"4x1 0,1000,300,0", 500, 499, 1}, {"3x1 500,1000,0", 500, 500, 0}, {"3x1 500,1000,0", 500, 499, 1}, {"8x1 5,0,0,0,0,0,0,0", 1000, 0, 7}, {"8x2 0,5,0,0,0,0,0,0,0,0,0,0,0,0,0,0", 1000, 4, 7},
		// It settles before a step that would fail.
		{"2x1 1000,999500", 500, 500, 0}, {"2x1 1000,999200", 500, 250, 1},
	} {
		checkSettledField(t, fieldFrom(t, c.field), c.share, c.limit, c.want, impl.OK)
	}
}

// fallOf returns what the upper one of two cells gives in each of some steps of the share 1.
func fallOf(mass int64, steps int) []int64 {
	falls := []int64{}
	for range steps {
		falls = append(falls, (mass+500)/1000)
		mass -= (mass + 500) / 1000
	}
	return falls
}

func TestFieldsThatSettleLate(t *testing.T) {
	falls := fallOf(1000000, 102)
	sum := int64(0)
	for _, fall := range falls[:101] {
		// Where several steps change as much, the first one counts.
		checkSettledField(t, fieldOf(2, 1, 1000000, 0), 1, fall, int64(slices.Index(falls, fall)), impl.OK)
		sum += fall
	}
	if want := []int64{907, 906, 905, 904}; !slices.Equal(falls[98:], want) {
		t.Fatalf("the last falls are %v, want %v", falls[98:], want)
	}
	checkSettledField(t, fieldOf(2, 1, 1000000, 0), 1, falls[100]-1, 0, impl.ErrNotFound)
	checkSettledField(t, fieldOf(2, 1, 1000000, 0), 1, falls[101], 0, impl.ErrNotFound)
	checkSettledField(t, fieldOf(2, 1, 1000000, 0), 1, 0, 0, impl.ErrNotFound)
	// The step that shows whether the field has settled after 100 steps may fail, and no later one is done.
	checkSettledField(t, fieldOf(2, 1, 1000000, 1000000-sum), 1, 0, 0, impl.ErrNotFound)
	checkSettledField(t, fieldOf(2, 1, 1000000, 1000000-sum), 1, falls[100], 100, impl.OK)
	checkSettledField(t, fieldOf(2, 1, 1000000, 1000000-sum+1), 1, 0, 0, impl.ErrState)
	checkSettledField(t, fieldOf(2, 1, 1000000, 1000000-sum+1), 1, falls[100], 0, impl.ErrState)
	checkSettledField(t, fieldOf(2, 1, 1000000, 1000000-sum+1), 1, falls[99], 99, impl.OK)
	checkSettledField(t, fieldOf(2, 1, 1000000, 1000000-sum+falls[100]+1), 1, falls[99], 0, impl.ErrState)
}

func TestFieldsThatCannotSettle(t *testing.T) {
	for _, limit := range []int64{0, 1, 999999, 1000000} {
		checkSettledField(t, fieldOf(2, 1, 1, 1000000), 1000, limit, 0, impl.ErrState)
		checkSettledField(t, evenField(8, 8, impl.MaxDrift), 1, limit, 0, impl.ErrState)
	}
	// The second step fails.
	checkSettledField(t, fieldOf(3, 1, 600000, 600000, 0), 1000, 599999, 0, impl.ErrState)
	checkSettledField(t, fieldOf(3, 1, 600000, 600000, 0), 1000, 600000, 0, impl.OK)
}

func TestErrorsOfSettledField(t *testing.T) {
	for _, f := range []impl.Field{fieldOf(1, 1, 5), fieldOf(2, 1, 1, 1000000), fieldOf(2, 1, 1000000, 0)} {
		for _, limit := range append(otherNumbers(), -1, impl.MaxDrift+1) {
			for _, share := range append(otherShares(), 0, 1, 1000) {
				checkSettledField(t, f, share, limit, 0, impl.ErrRange)
			}
		}
		for _, share := range otherShares() {
			checkSettledField(t, f, share, 0, 0, impl.ErrRange)
			checkSettledField(t, f, share, impl.MaxDrift, 0, impl.ErrRange)
		}
	}
	for _, f := range badFields() {
		for _, limit := range []int64{-1, 0, impl.MaxDrift, impl.MaxDrift + 1} {
			for _, share := range []int64{-1, 0, 1000, 1001} {
				checkSettledField(t, f, share, limit, 0, impl.ErrInvalid)
			}
		}
	}
}
