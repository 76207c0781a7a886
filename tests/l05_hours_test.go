package tests

import (
	"slices"
	"testing"

	"loop.example/g01013/impl"
)

// hourAsTold goes through the four steps of an hour in their order.
func hourAsTold(list []impl.Layer, joules int64) ([]impl.Layer, int64) {
	list = settledProfileAsTold(list)
	if joules < 0 {
		list, _ = cooledAsTold(list, -joules)
	} else {
		list, _ = warmedAsTold(list, joules)
	}
	list, runOff := drainedAsTold(list)
	return formsAsTold(list), runOff
}

// someJoules holds gains and losses of heat.
func someJoules() []int64 {
	joules := []int64{}
	for _, heat := range someHeats() {
		joules = append(joules, heat, -heat)
	}
	return joules
}

func TestStepHour(t *testing.T) {
	for _, list := range hourProfiles() {
		for _, joules := range someJoules() {
			want, wanted := hourAsTold(list, joules)
			got, runOff, code := impl.StepHour(list, joules)
			checkProfile(t, "StepHour", got, code, want, impl.OK)
			checkCoded(t, "what runs off", runOff, code, wanted, impl.OK)
			checkMass(t, "StepHour", list, got, runOff)
		}
	}
}

func TestKnownHours(t *testing.T) {
	for _, c := range []struct {
		before string
		joules int64
		after  string
		runOff int64
	}{
		{"-", 0, "-", 0}, {"-", 100000000, "-", 0}, {"-", -100000000, "-", 0},
		{"3,40000,0,300,-200,4,200;4,5000,0,250,-500,1,50;1,20000,0,100,-800,1,10", 400000, "5,40000,0,300,-200,4,201;4,5000,0,250,-500,1,51;6,19809,191,100,0,1,11", 0},
		// A loss of heat cools, a gain warms, and nothing does neither.
		{"3,1000,0,300,-10,4,5", 105, "3,1000,0,300,-5,4,6", 0}, {"3,1000,0,300,-10,4,5", -105, "3,1000,0,300,-15,4,6", 0}, {"3,1000,0,300,-10,4,5", 0, "3,1000,0,300,-10,4,6", 0},
		// Heat that is left is lost.
		{"3,1,0,300,0,4,5", 100000000, "3,1,0,300,0,4,6", 0}, {"3,1,0,300,0,4,5", -100000000, "3,1,0,300,-4000,4,6", 0}, {"3,1000000,5,300,0,4,5", -100000000, "6,1000000,5,300,0,4,6", 0},
		// The load is that before water runs down.
		{"3,1000,0,300,0,4,5;3,1,500000,300,0,4,5", 0, "6,1000,60,312,0,4,6;3,1,0,300,0,4,6", 499940},
		// Water that melts runs off in the same hour, and water that freezes does not.
		{"3,1000,0,300,0,4,5", 167000, "6,500,30,300,0,4,6", 470}, {"3,1000,500,300,0,4,5", -16700, "6,1050,63,300,0,4,6", 387}, {"3,1000,50,300,0,4,5", -16700, "3,1050,0,300,0,4,6", 0},
		// Forms follow the age after the hour.
		{"1,1000,0,100,-5,1,47", 0, "2,1000,0,100,-5,1,48", 0}, {"1,1000,0,100,-5,1,46", 0, "1,1000,0,100,-5,1,47", 0}, {"2,1000,0,100,-5,1,119", 0, "3,1000,0,100,-5,1,120", 0},
		// They follow the thickness after the hour: one metre under the load, and no longer less than one in 15.
		{"3,4500,0,300,0,1,30;3,4500,0,300,-15,1,30;1,500000,0,30,-15,1,0", 0, "4,4500,0,312,0,1,31;4,4500,0,312,-15,1,31;1,500000,0,30,-15,1,1", 0},
		// They follow the temperatures after the hour, those that become equal and those that become different.
		{"3,1000,0,100,0,1,90;3,1000,0,100,-10,1,90", 210, "3,1000,0,100,0,1,91;3,1000,0,100,0,1,91", 0}, {"3,1000,0,100,0,1,90;3,1000,0,100,0,1,90", -210, "4,1000,0,100,0,1,91;4,1000,0,100,-10,1,91", 0},
		// They follow the water after the hour: where it has run from, and where it has run to.
		{"3,1000,0,100,0,1,90;3,16,9,100,0,1,90", 0, "6,1000,9,100,0,1,91;3,16,0,100,0,1,91", 0}, {"3,16,0,100,0,1,90;3,16,9,100,0,1,90", 0, "3,16,0,100,0,1,91;3,16,0,100,0,1,91", 9}, {"3,16,9,100,0,1,90", -3006, "3,25,0,100,0,1,91", 0},
	} {
		got, runOff, code := impl.StepHour(profileOf(t, c.before), c.joules)
		checkProfile(t, "StepHour", got, code, profileOf(t, c.after), impl.OK)
		checkCoded(t, "what runs off", runOff, code, c.runOff, impl.OK)
	}
}

// hourInOrder does the steps settling, heat, draining and forms in another order.
func hourInOrder(list []impl.Layer, joules int64, order []int) ([]impl.Layer, int64) {
	runOff := int64(0)
	for _, step := range order {
		switch {
		case step == 0:
			list, _ = impl.SettleProfile(list)
		case step == 1 && joules >= 0:
			list, _, _ = impl.WarmTop(list, joules)
		case step == 1:
			list, _, _ = impl.CoolTop(list, -joules)
		case step == 2:
			list, runOff, _ = impl.DrainProfile(list)
		default:
			list, _ = impl.ChangeForms(list)
		}
	}
	return list, runOff
}

// differsInOrder counts the profiles and heats for which the steps in an order give something else than StepHour.
func differsInOrder(order []int) int {
	count := 0
	for _, list := range hourProfiles() {
		for _, joules := range someJoules() {
			got, runOff, _ := impl.StepHour(list, joules)
			want, wanted := hourInOrder(list, joules, order)
			if !slices.EqualFunc(got, want, equalLayers) || runOff != wanted {
				count++
			}
		}
	}
	return count
}

func TestOrderOfSteps(t *testing.T) {
	orders := 0
	for code := range 4 * 4 * 4 * 4 {
		order := []int{code / 64, code / 16 % 4, code / 4 % 4, code % 4}
		sorted := slices.Sorted(slices.Values(order))
		if !slices.Equal(sorted, []int{0, 1, 2, 3}) {
			continue
		}
		orders++
		count := differsInOrder(order)
		// Heat changes no load, so that it may as well come before settling.
		isSame := slices.Equal(order, []int{0, 1, 2, 3}) || slices.Equal(order, []int{1, 0, 2, 3})
		if isSame && count != 0 || !isSame && count == 0 {
			t.Errorf("the steps in the order %v differ from StepHour %d times", order, count)
		}
	}
	if orders != 24 {
		t.Errorf("%d orders", orders)
	}
}

func TestStepHourErrors(t *testing.T) {
	for _, joules := range append(otherNumbers(), -100000001, 100000001) {
		for _, list := range [][]impl.Layer{nil, {goodLayer()}, mixedProfile()} {
			got, runOff, code := impl.StepHour(list, joules)
			checkNoProfile(t, "StepHour", got, code, impl.ErrRange)
			checkCoded(t, "what runs off", runOff, code, 0, impl.ErrRange)
		}
	}
	for _, list := range badProfiles() {
		for _, joules := range append(otherNumbers(), -100000001, -100000000, 0, 100000000, 100000001) {
			got, runOff, code := impl.StepHour(list, joules)
			checkNoProfile(t, "StepHour of a bad profile", got, code, impl.ErrInvalid)
			checkCoded(t, "what runs off", runOff, code, 0, impl.ErrInvalid)
		}
	}
}

// joulesOf returns the heats of some hours, of which none is like the one before.
func joulesOf(count, most int64) []int64 {
	joules := []int64{}
	for i := range count {
		joules = append(joules, (i*7919+most)%(2*most+1)-most)
	}
	return joules
}

func checkHours(t *testing.T, list []impl.Layer, joules []int64) {
	t.Helper()
	want, wanted := slices.Clone(list), int64(0)
	for _, heat := range joules {
		hourly := int64(0)
		want, hourly = hourAsTold(want, heat)
		wanted += hourly
	}
	got, runOff, code := impl.RunHours(list, joules)
	checkProfile(t, "RunHours", got, code, want, impl.OK)
	checkCoded(t, "what runs off", runOff, code, wanted, impl.OK)
	checkMass(t, "RunHours", list, got, runOff)
}

func TestRunHours(t *testing.T) {
	for _, list := range append(goodProfiles(), mixedProfiles(20)...) {
		checkHours(t, list, nil)
		checkHours(t, list, []int64{})
		for _, heat := range []int64{0, 1, -1, 400000, -400000, 100000000, -100000000} {
			checkHours(t, list, []int64{heat})
			checkHours(t, list, []int64{heat, -heat, heat})
			checkHours(t, list, repeated(heat, 12))
		}
		for _, most := range []int64{500, 20000, 1000000} {
			checkHours(t, list, joulesOf(impl.MaxList, most))
		}
	}
}

func TestKnownRuns(t *testing.T) {
	for _, c := range []struct {
		before string
		joules []int64
		after  string
		runOff int64
	}{
		{"-", nil, "-", 0}, {"-", []int64{5, -5}, "-", 0}, {"1,1000,999,100,0,1,60", nil, "1,1000,999,100,0,1,60", 0},
		// The sum of all that runs off, in the order of the hours.
		{"3,1000,0,300,0,4,5", []int64{167000, 0, 83500, -3340}, "6,260,5,300,0,4,9", 735}, {"3,1000,0,300,0,4,5", []int64{-21000, 21000, 33400}, "6,900,54,300,0,4,8", 46}, {"3,1000,0,300,0,4,5", []int64{33400, 21000, -21000}, "6,888,0,300,-230,4,8", 112},
		{"1,1000,0,100,-5,1,46", []int64{0}, "1,1000,0,100,-5,1,47", 0}, {"1,1000,0,100,-5,1,46", []int64{0, 0}, "2,1000,0,100,-5,1,48", 0}, {"1,1000,0,100,-5,1,46", repeated(0, 64), "2,1000,0,100,-5,1,110", 0}, {"1,1000,0,100,-5,1,56", repeated(0, 64), "3,1000,0,100,-5,1,120", 0},
	} {
		got, runOff, code := impl.RunHours(profileOf(t, c.before), c.joules)
		checkProfile(t, "RunHours", got, code, profileOf(t, c.after), impl.OK)
		checkCoded(t, "what runs off", runOff, code, c.runOff, impl.OK)
	}
}

func TestRunHoursGoesOnFromHourToHour(t *testing.T) {
	joules := joulesOf(impl.MaxList, 3000000)
	list := mixedProfile()
	before, sum := mixedProfile(), int64(0)
	for i, heat := range joules {
		after, runOff, code := impl.StepHour(before, heat)
		if code != impl.OK {
			t.Fatalf("StepHour(%v, %d) = %d", before, heat, code)
		}
		before, sum = after, sum+runOff
		got, all, code := impl.RunHours(list, joules[:i+1])
		checkProfile(t, "RunHours", got, code, before, impl.OK)
		checkCoded(t, "what runs off", all, code, sum, impl.OK)
	}
}

func checkNoHours(t *testing.T, list []impl.Layer, joules []int64, wanted int64) {
	t.Helper()
	got, runOff, code := impl.RunHours(list, joules)
	checkNoProfile(t, "RunHours", got, code, wanted)
	checkCoded(t, "what runs off", runOff, code, 0, wanted)
}

func TestRunHoursErrors(t *testing.T) {
	for _, list := range [][]impl.Layer{nil, {goodLayer()}, mixedProfile()} {
		for _, count := range []int{65, 66, 100, 100000} {
			checkNoHours(t, list, repeated(0, count), impl.ErrOrder)
			checkNoHours(t, list, repeated(-100000000, count), impl.ErrOrder)
		}
		for _, heat := range append(otherNumbers(), -100000001, 100000001) {
			checkNoHours(t, list, []int64{heat}, impl.ErrRange)
			checkNoHours(t, list, []int64{heat, 0, 0}, impl.ErrRange)
			checkNoHours(t, list, append(repeated(0, 63), heat), impl.ErrRange)
			// All joules are looked at before their number.
			checkNoHours(t, list, append(repeated(0, 64), heat), impl.ErrRange)
			checkNoHours(t, list, append(repeated(0, 1000), heat), impl.ErrRange)
			checkNoHours(t, list, repeated(heat, 65), impl.ErrRange)
		}
	}
	for _, list := range badProfiles() {
		for _, joules := range [][]int64{nil, {0}, {100000001}, repeated(0, 65), repeated(-100000001, 65)} {
			checkNoHours(t, list, joules, impl.ErrInvalid)
		}
	}
}
