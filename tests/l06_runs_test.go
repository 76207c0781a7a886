package tests

import (
	"slices"
	"testing"

	"loop.example/g01013/impl"
)

// someGusts holds no directions, each of them, some after each other, and as many as may be.
func someGusts() [][]int64 {
	lists := [][]int64{nil, {}, {0}, {1}, {2}, {3}, {0, 0}, {0, 2}, {2, 0}, {1, 3, 3}, {0, 1, 2, 3}, {3, 3, 3, 2, 2, 2, 2}, gustsOf(impl.MaxGusts - 1), gustsOf(impl.MaxGusts)}
	for direction := range int64(4) {
		lists = append(lists, repeated(direction, impl.MaxGusts))
	}
	return lists
}

// otherGusts holds too many directions, and lists with one that is none.
func otherGusts() [][]int64 {
	lists := [][]int64{gustsOf(impl.MaxGusts + 1), repeated(0, impl.MaxGusts+1), repeated(3, 100000)}
	for _, direction := range otherDirections() {
		lists = append(lists, []int64{direction}, []int64{direction, 0, 0}, []int64{0, direction, 3}, []int64{2, 2, direction}, append(gustsOf(impl.MaxGusts-1), direction), repeated(direction, impl.MaxGusts+1))
	}
	return lists
}

func TestDriftRun(t *testing.T) {
	for _, f := range append(goodFields(), smallFields()[:100]...) {
		for _, directions := range someGusts() {
			for _, share := range []int64{0, 1, 333, 500, 1000} {
				checkRun(t, f, directions, share)
			}
		}
	}
}

func TestDriftRunWithoutDirections(t *testing.T) {
	for _, f := range append(goodFields(), evenField(8, 8, impl.MaxDrift)) {
		for _, directions := range [][]int64{nil, {}} {
			got, code := impl.DriftRun(f, directions, 1000)
			checkField(t, "DriftRun without directions", got, code, f, impl.OK)
		}
	}
}

func TestDriftRunGoesOnFromStepToStep(t *testing.T) {
	directions := gustsOf(impl.MaxGusts)
	for _, f := range mixedFields(1) {
		before, wanted := f, int64(impl.OK)
		for i, direction := range directions {
			if wanted == impl.OK {
				before, wanted = impl.DriftStep(before, direction, 400)
			}
			got, code := impl.DriftRun(f, directions[:i+1], 400)
			checkField(t, "DriftRun", got, code, before, wanted)
		}
	}
}

func TestKnownRunsOfDrift(t *testing.T) {
	for _, c := range []struct {
		before     string
		directions []int64
		share      int64
		after      string
	}{
		{"2x1 1000,0", []int64{0, 0}, 500, "2x1 250,750"}, {"2x1 1000,0", []int64{0, 2}, 500, "2x1 750,250"}, {"2x1 1000,0", []int64{2, 0}, 500, "2x1 500,500"}, {"2x1 1000,0", []int64{2, 1, 3}, 500, "2x1 1000,0"},
		{"1x2 1000,0", []int64{3, 3}, 500, "1x2 250,750"}, {"1x2 1000,0", []int64{1, 3, 0}, 1000, "1x2 0,1000"}, {"3x1 1000,0,0", []int64{0, 0}, 500, "3x1 250,500,250"}, {"2x2 16,0,0,0", []int64{3, 0}, 500, "2x2 4,4,4,4"}, {"2x2 16,8,4,0", []int64{0, 1, 2, 3}, 1000, "2x2 0,28,0,0"},
		{"8x1 5,0,0,0,0,0,0,0", repeated(0, 7), 1000, "8x1 0,0,0,0,0,0,0,5"}, {"8x1 5,0,0,0,0,0,0,0", repeated(0, 24), 1000, "8x1 0,0,0,0,0,0,0,5"}, {"8x1 5,0,0,0,0,0,0,0", repeated(0, 6), 1000, "8x1 0,0,0,0,0,0,5,0"},
		// As much as may be, in the last step and in one before it.
		{"3x1 600000,400000,0", []int64{0, 0}, 1000, "3x1 0,0,1000000"}, {"3x1 600000,400000,0", []int64{0, 0, 2}, 1000, "3x1 0,1000000,0"}, {"2x1 1000000,0", []int64{0, 2, 0, 2}, 1000, "2x1 1000000,0"}, {"2x1 500000,500000", []int64{0, 2}, 500, "2x1 625000,375000"},
	} {
		got, code := impl.DriftRun(fieldFrom(t, c.before), c.directions, c.share)
		checkField(t, "DriftRun of "+c.before, got, code, fieldFrom(t, c.after), impl.OK)
	}
}

func TestRunsWithTooMuchSnow(t *testing.T) {
	for _, c := range []struct {
		before     string
		directions []int64
		share      int64
	}{
		{"3x1 600000,400001,0", []int64{0, 0}, 1000}, {"2x1 1000000,1000000", []int64{0}, 1000}, {"2x1 1,1000000", []int64{1, 3, 0}, 1000},
		// In a middle step, after which another one would not fail.
		{"3x1 600000,400001,0", []int64{0, 0, 2}, 1000}, {"3x1 600000,400001,0", []int64{0, 0, 2, 2, 1}, 1000}, {"2x1 1,1000000", []int64{0, 2}, 1000}, {"2x1 1,1000000", []int64{0, 1}, 1000}, {"2x2 1,0,1000000,0", []int64{0, 3, 2, 1}, 1000}, {"2x1 1,1000000", append([]int64{0}, repeated(1, 23)...), 1000},
	} {
		got, code := impl.DriftRun(fieldFrom(t, c.before), c.directions, c.share)
		checkField(t, "DriftRun of "+c.before, got, code, impl.Field{}, impl.ErrState)
	}
	for _, directions := range [][]int64{{0, 2}, {1, 3}, {2, 0}, {3, 1}, gustsOf(impl.MaxGusts)} {
		got, code := impl.DriftRun(evenField(8, 8, impl.MaxDrift), directions, 1)
		checkField(t, "DriftRun of a full field", got, code, impl.Field{}, impl.ErrState)
	}
}

// runFunction is one of the functions of a field, directions and a share; it returns whether its other result is zero, and the code.
type runFunction struct {
	name string
	call func(f impl.Field, directions []int64, share int64) (bool, int64)
}

func runFunctions() []runFunction {
	return []runFunction{
		{"DriftRun", func(f impl.Field, directions []int64, share int64) (bool, int64) {
			got, code := impl.DriftRun(f, directions, share)
			return impl.SameField(got, impl.Field{}), code
		}},
		{"DriftGain", func(f impl.Field, directions []int64, share int64) (bool, int64) {
			got, code := impl.DriftGain(f, directions, share)
			return len(got) == 0, code
		}},
		{"LoadedCells", func(f impl.Field, directions []int64, share int64) (bool, int64) {
			got, code := impl.LoadedCells(f, directions, share, 0)
			return len(got) == 0, code
		}},
	}
}

// checkNoRun checks that all functions of a run return an error, and nothing else.
func checkNoRun(t *testing.T, f impl.Field, directions []int64, share, wanted int64) {
	t.Helper()
	for _, function := range runFunctions() {
		if isZero, code := function.call(f, directions, share); !isZero || code != wanted {
			t.Errorf("%s(%v, %v, %d) returns %d, and zero values: %v; want %d", function.name, f, directions, share, code, isZero, wanted)
		}
	}
}

func TestErrorsOfRuns(t *testing.T) {
	// The second and the third field get too much in the first or the second step.
	for _, f := range []impl.Field{fieldOf(1, 1, 5), evenField(2, 2, impl.MaxDrift), fieldOf(3, 1, 600000, 600000, 0), evenField(8, 8, 3)} {
		for _, directions := range otherGusts() {
			for _, share := range []int64{-1, 0, 1000, 1001} {
				checkNoRun(t, f, directions, share, impl.ErrRange)
			}
		}
		for _, directions := range someGusts() {
			for _, share := range otherShares() {
				checkNoRun(t, f, directions, share, impl.ErrRange)
			}
		}
	}
	checkNoRun(t, evenField(2, 2, impl.MaxDrift), []int64{0}, 1000, impl.ErrState)
	checkNoRun(t, fieldOf(3, 1, 600000, 600000, 0), []int64{0, 0}, 1000, impl.ErrState)
	checkNoRun(t, fieldOf(3, 1, 600000, 600000, 0), []int64{0, 0, 2}, 1000, impl.ErrState)
	for _, f := range badFields() {
		for _, directions := range [][]int64{nil, {0}, {-1}, {4}, repeated(0, 25)} {
			for _, share := range []int64{-1, 0, 1000, 1001} {
				checkNoRun(t, f, directions, share, impl.ErrInvalid)
			}
		}
	}
}

// gainAsTold returns what the cells gain in some steps, and the code of these.
func gainAsTold(f impl.Field, directions []int64, share int64) ([]int64, int64) {
	after, code := runAsTold(f, directions, share)
	gains := []int64{}
	for cell, mass := range after.Masses {
		gains = append(gains, mass-f.Masses[cell])
	}
	return gains, code
}

func checkGain(t *testing.T, f impl.Field, directions []int64, share int64) {
	t.Helper()
	want, wanted := gainAsTold(f, directions, share)
	got, code := impl.DriftGain(f, directions, share)
	checkNumbers(t, "DriftGain", got, code, want, wanted)
	sum := int64(0)
	for _, gain := range got {
		sum += gain
	}
	if sum != 0 || code == impl.OK && len(got) != len(f.Masses) {
		t.Errorf("DriftGain(%v, %v, %d) = %v: the sum is %d", f, directions, share, got, sum)
	}
	leasts := []int64{0, 1, 2, 9, 1000, 250000, 999999, 1000000}
	for _, gain := range want {
		// A gain is just enough for itself, and too little for the next number.
		if gain >= 0 {
			leasts = append(leasts, gain, min(gain+1, 1000000))
		}
	}
	for _, least := range leasts {
		loaded, code := impl.LoadedCells(f, directions, share, least)
		checkNumbers(t, "LoadedCells", loaded, code, loadedAsTold(want, least), wanted)
	}
}

// loadedAsTold returns the places of the gains that are at least a number.
func loadedAsTold(gains []int64, least int64) []int64 {
	cells := []int64{}
	for cell, gain := range gains {
		if gain >= least {
			cells = append(cells, int64(cell))
		}
	}
	return cells
}

func TestDriftGain(t *testing.T) {
	fields := append(goodFields()[:15], mixedFields(1)...)
	for _, f := range fields {
		for _, directions := range [][]int64{nil, {0}, {1}, {2}, {3}, {0, 2}, {1, 1, 0}, gustsOf(impl.MaxGusts)} {
			for _, share := range []int64{0, 333, 1000} {
				checkGain(t, f, directions, share)
			}
		}
	}
	for _, f := range slices.Concat(fieldsWith(2, 2, []int64{0, 3, 1000000}), fieldsWith(3, 1, []int64{0, 3, 1000000})) {
		for direction := range int64(4) {
			checkGain(t, f, []int64{direction}, 500)
		}
	}
}

func TestKnownGains(t *testing.T) {
	for _, c := range []struct {
		before     string
		directions []int64
		share      int64
		gains      []int64
		least      int64
		loaded     []int64
	}{
		{"2x1 1000,0", []int64{0, 0}, 500, []int64{-750, 750}, 1, []int64{1}}, {"2x1 1000,0", []int64{0, 0}, 500, []int64{-750, 750}, 750, []int64{1}}, {"2x1 1000,0", []int64{0, 0}, 500, []int64{-750, 750}, 751, nil},
		{"1x1 5", []int64{0}, 1000, []int64{0}, 0, []int64{0}}, {"1x1 5", []int64{0}, 1000, []int64{0}, 1, nil}, {"1x3 5,6,7", nil, 1000, []int64{0, 0, 0}, 0, []int64{0, 1, 2}}, {"2x1 1000,0", []int64{0, 2}, 1000, []int64{0, 0}, 0, []int64{0, 1}},
		{"3x1 1000,100,10", []int64{0}, 500, []int64{-500, 450, 50}, 0, []int64{1, 2}}, {"3x1 1000,100,10", []int64{0}, 500, []int64{-500, 450, 50}, 51, []int64{1}}, {"2x2 8,8,4,0", []int64{1}, 500, []int64{4, -4, 0, 0}, 0, []int64{0, 2, 3}}, {"2x2 8,8,4,0", []int64{1}, 500, []int64{4, -4, 0, 0}, 1, []int64{0}},
		{"2x1 1000000,0", []int64{0}, 1000, []int64{-1000000, 1000000}, 1000000, []int64{1}}, {"2x1 999999,0", []int64{0}, 1000, []int64{-999999, 999999}, 1000000, nil}, {"2x1 1000000,0", []int64{1}, 1000, []int64{0, 0}, 1000000, nil},
	} {
		f := fieldFrom(t, c.before)
		gains, code := impl.DriftGain(f, c.directions, c.share)
		checkNumbers(t, "DriftGain of "+c.before, gains, code, c.gains, impl.OK)
		loaded, code := impl.LoadedCells(f, c.directions, c.share, c.least)
		checkNumbers(t, "LoadedCells of "+c.before, loaded, code, c.loaded, impl.OK)
	}
}

func TestErrorsOfLoadedCells(t *testing.T) {
	for _, least := range append(otherNumbers(), -1, impl.MaxDrift+1) {
		for _, f := range []impl.Field{fieldOf(1, 1, 5), evenField(2, 2, impl.MaxDrift), fieldOf(3, 1, 600000, 600000, 0)} {
			for _, directions := range [][]int64{nil, {0}, {0, 0}, {4}, repeated(0, 25)} {
				for _, share := range []int64{0, 1000, 1001} {
					got, code := impl.LoadedCells(f, directions, share, least)
					checkNumbers(t, "LoadedCells with a bad least", got, code, nil, impl.ErrRange)
				}
			}
		}
		for _, f := range badFields() {
			got, code := impl.LoadedCells(f, []int64{0}, 500, least)
			checkNumbers(t, "LoadedCells of a bad field", got, code, nil, impl.ErrInvalid)
		}
	}
}
