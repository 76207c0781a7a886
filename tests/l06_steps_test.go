package tests

import (
	"slices"
	"testing"

	"loop.example/g01013/impl"
)

// windSides holds, for each direction from which wind comes, the rows and columns to the cell from which snow comes.
func windSides() [][2]int64 { return [][2]int64{{-1, 0}, {0, 1}, {1, 0}, {0, -1}} }

// massAt returns the mass of a cell and whether there is one.
func massAt(f impl.Field, row, column int64) (int64, bool) {
	if row < 0 || row >= f.Rows || column < 0 || column >= f.Columns {
		return 0, false
	}
	return f.Masses[f.Columns*row+column], true
}

// driftedAsTold asks each cell what it keeps and what it gets, and returns false if one has too much.
func driftedAsTold(f impl.Field, direction, share int64) (impl.Field, bool) {
	side := windSides()[direction]
	after := fieldOf(f.Rows, f.Columns)
	for row := range f.Rows {
		for column := range f.Columns {
			mass, _ := massAt(f, row, column)
			if _, givesTo := massAt(f, row-side[0], column-side[1]); givesTo {
				mass -= roundedQuotient(f.Masses[f.Columns*row+column]*share, 1000).Int64()
			}
			if giver, getsFrom := massAt(f, row+side[0], column+side[1]); getsFrom {
				mass += roundedQuotient(giver*share, 1000).Int64()
			}
			after.Masses = append(after.Masses, mass)
		}
	}
	if slices.Max(after.Masses) > 1000000 {
		return impl.Field{}, false
	}
	return after, true
}

// runAsTold goes through steps, and returns the code of the first one that fails.
func runAsTold(f impl.Field, directions []int64, share int64) (impl.Field, int64) {
	f = fieldOf(f.Rows, f.Columns, slices.Clone(f.Masses)...)
	for _, direction := range directions {
		after, ok := driftedAsTold(f, direction, share)
		if !ok {
			return impl.Field{}, impl.ErrState
		}
		f = after
	}
	return f, impl.OK
}

// someShares holds shares with which snow moves in different ways, 0 and 1000 among them.
func someShares() []int64 { return []int64{0, 1, 5, 125, 333, 499, 500, 501, 750, 999, 1000} }

func otherShares() []int64 { return append(otherNumbers(), -1, 1001) }

func otherDirections() []int64 { return append(otherNumbers(), -1, 4) }

// gustsOf returns directions in which each one stands beside each other one.
func gustsOf(count int) []int64 {
	gusts := []int64{}
	for i := range int64(count) {
		gusts = append(gusts, (i*i/3+i)%4)
	}
	return gusts
}

// checkAllSnow checks that all snow before a step is there after it, where none of it is a debt.
func checkAllSnow(t *testing.T, what string, before, after impl.Field) {
	t.Helper()
	was, code := impl.FieldMass(before)
	is, also := impl.FieldMass(after)
	if was != is || code != impl.OK || also != impl.OK || !impl.ValidField(after) {
		t.Errorf("%s: the snow of %v, %d, is %d in %v", what, before, was, is, after)
	}
}

func checkRun(t *testing.T, f impl.Field, directions []int64, share int64) {
	t.Helper()
	want, wanted := runAsTold(f, directions, share)
	got, code := impl.DriftRun(f, directions, share)
	if !impl.SameField(got, want) || code != wanted {
		t.Errorf("DriftRun(%v, %v, %d) = %v, %d, want %v, %d", f, directions, share, got, code, want, wanted)
	}
	if code == impl.OK {
		checkAllSnow(t, "DriftRun", f, got)
	}
}

func checkStep(t *testing.T, f impl.Field, direction, share int64) {
	t.Helper()
	want, wanted := runAsTold(f, []int64{direction}, share)
	got, code := impl.DriftStep(f, direction, share)
	if !impl.SameField(got, want) || code != wanted {
		t.Errorf("DriftStep(%v, %d, %d) = %v, %d, want %v, %d", f, direction, share, got, code, want, wanted)
	}
	if code == impl.OK {
		checkAllSnow(t, "DriftStep", f, got)
	}
	checkRun(t, f, []int64{direction}, share)
}

// fieldsWith holds all fields of a size whose masses are some of those given.
func fieldsWith(rows, columns int64, masses []int64) []impl.Field {
	lists := [][]int64{{}}
	for range rows * columns {
		longer := [][]int64{}
		for _, list := range lists {
			for _, mass := range masses {
				longer = append(longer, append(slices.Clone(list), mass))
			}
		}
		lists = longer
	}
	fields := []impl.Field{}
	for _, list := range lists {
		fields = append(fields, fieldOf(rows, columns, list...))
	}
	return fields
}

// smallFields holds all fields of a few cells with masses at the limits.
func smallFields() []impl.Field {
	masses := []int64{0, 1, 3, 999999, 1000000}
	return slices.Concat(fieldsWith(1, 1, masses), fieldsWith(1, 2, masses), fieldsWith(2, 1, masses), fieldsWith(2, 2, masses), fieldsWith(1, 3, masses), fieldsWith(3, 1, masses))
}

func TestShareOf(t *testing.T) {
	for speed := int64(0); speed <= 100000; speed++ {
		want := int64(0)
		switch {
		case speed >= 2500:
			want = 1000
		case speed > 500:
			want = roundedQuotient((speed-500)*1000, 2000).Int64()
		}
		if got, code := impl.ShareOf(speed); got != want || code != impl.OK {
			t.Fatalf("ShareOf(%d) = %d, %d, want %d", speed, got, code, want)
		}
	}
	for _, c := range [][2]int64{{0, 0}, {499, 0}, {500, 0}, {501, 1}, {502, 1}, {503, 2}, {1499, 500}, {1500, 500}, {1501, 501}, {2497, 999}, {2498, 999}, {2499, 1000}, {2500, 1000}, {2501, 1000}, {100000, 1000}} {
		got, code := impl.ShareOf(c[0])
		checkCoded(t, "ShareOf", got, code, c[1], impl.OK)
	}
	for _, speed := range append(otherNumbers(), -1, -500, 100001) {
		got, code := impl.ShareOf(speed)
		checkCoded(t, "ShareOf of no speed", got, code, 0, impl.ErrRange)
	}
}

func TestShareOfSpeedsOfTheWind(t *testing.T) {
	before, field := int64(0), fieldOf(2, 1, 1000, 0)
	for _, speed := range append(otherNumbers(), -1, 0, 29, 30, 500, 501, 549, 550, 1500, 2449, 2450, 2499, 2500, 3270, 99999, 100000, 100001) {
		_, wanted := impl.BeaufortOf(speed)
		share, code := impl.ShareOf(speed)
		if code != wanted {
			t.Errorf("ShareOf(%d) returns %d, and BeaufortOf %d", speed, code, wanted)
		}
		if code != impl.OK {
			continue
		}
		if share < before {
			t.Errorf("a wind of %d moves less than a weaker one: %d, not %d", speed, share, before)
		}
		before = share
		got, code := impl.DriftStep(field, 0, share)
		checkField(t, "DriftStep with a share of wind", got, code, fieldOf(2, 1, 1000-share, share), impl.OK)
	}
}

func TestStepsHaveTheDirectionsOfTheWind(t *testing.T) {
	for _, direction := range append(otherNumbers(), -2, -1, 0, 1, 2, 3, 4, 5) {
		want := impl.Field{}
		wanted := int64(impl.ErrRange)
		switch impl.WindName(direction) {
		case "north":
			want, wanted = fieldOf(3, 3, 0, 0, 0, 1, 2, 3, 11, 13, 15), impl.OK
		case "east":
			want, wanted = fieldOf(3, 3, 3, 3, 0, 9, 6, 0, 15, 9, 0), impl.OK
		case "south":
			want, wanted = fieldOf(3, 3, 5, 7, 9, 7, 8, 9, 0, 0, 0), impl.OK
		case "west":
			want, wanted = fieldOf(3, 3, 0, 1, 5, 0, 4, 11, 0, 7, 17), impl.OK
		}
		got, code := impl.DriftStep(fieldOf(3, 3, 1, 2, 3, 4, 5, 6, 7, 8, 9), direction, 1000)
		checkField(t, "DriftStep of a square", got, code, want, wanted)
	}
}

func TestDriftStepOfSmallFields(t *testing.T) {
	for _, f := range smallFields() {
		for direction := range int64(4) {
			for _, share := range []int64{0, 1, 499, 500, 999, 1000} {
				checkStep(t, f, direction, share)
			}
		}
	}
}

func TestDriftStepOfManyFields(t *testing.T) {
	for _, f := range append(goodFields(), mixedFields(5)...) {
		for direction := range int64(4) {
			for _, share := range someShares() {
				checkStep(t, f, direction, share)
			}
		}
	}
}

func TestDriftStepOfEachShare(t *testing.T) {
	for share := int64(0); share <= 1000; share++ {
		for direction := range int64(4) {
			checkStep(t, fieldOf(3, 3, 7, 1000, 499, 500, 123456, 0, 999, 1500, 1), direction, share)
		}
	}
}

func TestOneCellNeverDrifts(t *testing.T) {
	for _, mass := range []int64{0, 1, 500, 999999, 1000000} {
		for direction := range int64(4) {
			for _, share := range someShares() {
				got, code := impl.DriftStep(fieldOf(1, 1, mass), direction, share)
				checkField(t, "DriftStep of one cell", got, code, fieldOf(1, 1, mass), impl.OK)
			}
		}
	}
}

// TestDriftStepFromEachCell puts snow in one cell, at each edge and none.
func TestDriftStepFromEachCell(t *testing.T) {
	for _, size := range [][2]int64{{1, 1}, {1, 8}, {8, 1}, {2, 2}, {3, 4}, {4, 3}, {8, 8}} {
		for row := range size[0] {
			for column := range size[1] {
				for direction, side := range windSides() {
					f, want := evenField(size[0], size[1], 0), evenField(size[0], size[1], 0)
					f.Masses[row*size[1]+column], want.Masses[row*size[1]+column] = 1000, 1000
					if _, isThere := massAt(f, row-side[0], column-side[1]); isThere {
						want.Masses[row*size[1]+column] = 700
						want.Masses[(row-side[0])*size[1]+column-side[1]] = 300
					}
					got, code := impl.DriftStep(f, int64(direction), 300)
					checkField(t, "DriftStep of snow in one cell", got, code, want, impl.OK)
				}
			}
		}
	}
}

func TestKnownSteps(t *testing.T) {
	for _, c := range []struct {
		before           string
		direction, share int64
		after            string
	}{
		{"2x1 1000,400", 0, 500, "2x1 500,900"}, {"2x1 1000,400", 1, 500, "2x1 1000,400"}, {"2x1 1000,400", 2, 500, "2x1 1200,200"}, {"2x1 1000,400", 3, 500, "2x1 1000,400"},
		{"1x2 1000,400", 0, 500, "1x2 1000,400"}, {"1x2 1000,400", 1, 500, "1x2 1200,200"}, {"1x2 1000,400", 2, 500, "1x2 1000,400"}, {"1x2 1000,400", 3, 500, "1x2 500,900"},
		// What a cell gives is taken of its mass before the step.
		{"3x1 1000,100,10", 0, 500, "3x1 500,550,60"}, {"3x1 10,100,1000", 2, 500, "3x1 60,550,500"}, {"1x3 10,100,1000", 1, 500, "1x3 60,550,500"}, {"1x3 1000,100,10", 3, 500, "1x3 500,550,60"},
		{"3x1 1000,0,0", 0, 1000, "3x1 0,1000,0"}, {"3x1 0,0,1000", 2, 1000, "3x1 0,1000,0"}, {"1x3 0,0,1000", 1, 1000, "1x3 0,1000,0"}, {"1x3 1000,0,0", 3, 1000, "1x3 0,1000,0"},
		// No cell is next to the one at the other end of the row before.
		{"2x2 0,9,0,0", 3, 1000, "2x2 0,9,0,0"}, {"2x2 0,0,9,0", 1, 1000, "2x2 0,0,9,0"}, {"2x2 0,0,0,9", 0, 1000, "2x2 0,0,0,9"}, {"2x2 9,0,0,0", 2, 1000, "2x2 9,0,0,0"}, {"2x3 1,2,3,4,5,6", 0, 1000, "2x3 0,0,0,5,7,9"}, {"3x2 1,2,3,4,5,6", 1, 1000, "3x2 3,0,7,0,11,0"},
		// Quotients just at a half, and just below it.
		{"2x1 1,0", 0, 500, "2x1 0,1"}, {"2x1 1,0", 0, 499, "2x1 1,0"}, {"2x1 3,0", 0, 500, "2x1 1,2"}, {"2x1 5,0", 0, 100, "2x1 4,1"}, {"2x1 4,0", 0, 125, "2x1 3,1"}, {"2x1 4,0", 0, 124, "2x1 4,0"}, {"2x1 500,0", 0, 1, "2x1 499,1"}, {"2x1 499,0", 0, 1, "2x1 499,0"}, {"2x1 1500,0", 0, 1, "2x1 1498,2"}, {"2x1 1499,0", 0, 1, "2x1 1498,1"}, {"2x1 999999,0", 0, 500, "2x1 499999,500000"},
		{"2x1 7,5", 0, 0, "2x1 7,5"}, {"2x1 7,5", 0, 1000, "2x1 0,12"}, {"2x1 7,5", 0, 999, "2x1 0,12"},
		// As much as may be.
		{"2x1 1000000,0", 0, 1000, "2x1 0,1000000"}, {"2x1 1,999999", 0, 1000, "2x1 0,1000000"}, {"2x1 1,1000000", 0, 499, "2x1 1,1000000"}, {"2x1 500000,500000", 0, 1000, "2x1 0,1000000"},
		// A cell that is full may get as much as it gives.
		{"3x1 1000000,1000000,0", 0, 1000, "3x1 0,1000000,1000000"}, {"3x1 0,1000000,1000000", 2, 1000, "3x1 1000000,1000000,0"}, {"1x3 0,1000000,1000000", 1, 1000, "1x3 1000000,1000000,0"}, {"1x3 1000000,1000000,0", 3, 1000, "1x3 0,1000000,1000000"}, {"3x1 1000000,1000000,500000", 0, 500, "3x1 500000,1000000,1000000"},
	} {
		got, code := impl.DriftStep(fieldFrom(t, c.before), c.direction, c.share)
		checkField(t, "DriftStep of "+c.before, got, code, fieldFrom(t, c.after), impl.OK)
	}
}

func TestStepsWithTooMuchSnow(t *testing.T) {
	for _, c := range []struct {
		before           string
		direction, share int64
	}{
		{"2x1 1,1000000", 0, 1000}, {"2x1 1,1000000", 0, 500}, {"2x1 2,999999", 0, 1000}, {"2x1 1000000,1000000", 0, 1}, {"2x1 1000000,1", 2, 1000}, {"1x2 1000000,1", 1, 1000}, {"1x2 1,1000000", 3, 1000}, {"2x1 500001,500000", 0, 1000},
		// Only a cell that gives nothing can get too much: the last one of a column or a row, with others beside it.
		{"3x1 1000000,999999,2", 0, 1000}, {"3x1 0,1,1000000", 0, 1000}, {"3x1 1000000,1,1000000", 0, 1000}, {"3x1 0,1000,999999", 0, 2}, {"2x2 1,0,1000000,0", 0, 1000}, {"2x2 0,1,0,1000000", 0, 1000}, {"2x2 1000000,0,1,0", 2, 1000}, {"2x2 0,1000000,0,1", 2, 1000}, {"2x2 1000000,1,0,0", 1, 1000}, {"2x2 0,0,1,1000000", 3, 1000},
	} {
		got, code := impl.DriftStep(fieldFrom(t, c.before), c.direction, c.share)
		checkField(t, "DriftStep of "+c.before, got, code, impl.Field{}, impl.ErrState)
	}
}

func TestDriftStepErrors(t *testing.T) {
	// With the share 1000, the second field would get too much.
	for _, f := range []impl.Field{fieldOf(1, 1, 5), evenField(2, 2, impl.MaxDrift), evenField(8, 8, 3)} {
		for _, direction := range otherDirections() {
			for _, share := range append(otherShares(), 0, 500, 1000) {
				got, code := impl.DriftStep(f, direction, share)
				checkField(t, "DriftStep with no direction", got, code, impl.Field{}, impl.ErrRange)
			}
		}
		for direction := range int64(4) {
			for _, share := range otherShares() {
				got, code := impl.DriftStep(f, direction, share)
				checkField(t, "DriftStep with no share", got, code, impl.Field{}, impl.ErrRange)
			}
		}
	}
	for _, f := range badFields() {
		for _, direction := range append(otherDirections(), 0, 1, 2, 3) {
			for _, share := range append(otherShares(), 0, 1000) {
				got, code := impl.DriftStep(f, direction, share)
				checkField(t, "DriftStep of a bad field", got, code, impl.Field{}, impl.ErrInvalid)
			}
		}
	}
}
