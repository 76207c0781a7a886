package tests

import (
	"slices"
	"testing"

	"loop.example/g01013/impl"
)

// warmedAsTold gives heat hundredth by hundredth of a degree and gram by gram.
func warmedAsTold(list []impl.Layer, heat int64) ([]impl.Layer, int64) {
	warm := slices.Clone(list)
	for k := len(warm) - 1; k >= 0; k-- {
		x := &warm[k]
		cold := x.Ice * 21 * -x.Degrees
		if 1000*heat < cold {
			for rest := 1000 * heat; rest >= 21*x.Ice; rest -= 21 * x.Ice {
				x.Degrees++
			}
			return warm, 0
		}
		x.Degrees = 0
		// What is left is rounded down because the cold is rounded up.
		for heat = (1000*heat - cold) / 1000; heat >= 334 && x.Ice > 1 && x.Water < 1000000; heat -= 334 {
			x.Ice--
			x.Water++
		}
		if heat < 334 {
			break
		}
	}
	return warm, heat
}

// cooledAsTold takes heat gram by gram and hundredth by hundredth of a degree.
func cooledAsTold(list []impl.Layer, heat int64) ([]impl.Layer, int64) {
	cool := slices.Clone(list)
	for k := len(cool) - 1; k >= 0; k-- {
		x := &cool[k]
		for ; heat >= 334 && x.Water > 0 && x.Ice < 1000000; heat -= 334 {
			x.Water--
			x.Ice++
		}
		if x.Water > 0 {
			break
		}
		rest := 1000 * heat
		for ; rest >= 21*x.Ice && x.Degrees > -4000; rest -= 21 * x.Ice {
			x.Degrees--
		}
		// What is left is rounded down because what is taken is rounded up.
		heat = rest / 1000
		if x.Degrees > -4000 {
			break
		}
	}
	return cool, heat
}

// drainedAsTold pours water gram by gram into what a layer holds.
func drainedAsTold(list []impl.Layer) ([]impl.Layer, int64) {
	dry := slices.Clone(list)
	runs := int64(0)
	for k := len(dry) - 1; k >= 0; k-- {
		x := &dry[k]
		runs += x.Water
		for x.Water = 0; runs > 0 && 1000*(x.Water+1) <= 60*x.Ice; runs-- {
			x.Water++
		}
	}
	return dry, runs
}

// heatFunction is WarmTop or CoolTop, and what the chapter tells of it.
type heatFunction struct {
	name   string
	of     func([]impl.Layer, int64) ([]impl.Layer, int64, int64)
	asTold func([]impl.Layer, int64) ([]impl.Layer, int64)
}

func heatFunctions() []heatFunction {
	return []heatFunction{{"WarmTop", impl.WarmTop, warmedAsTold}, {"CoolTop", impl.CoolTop, cooledAsTold}}
}

// someHeats holds amounts of heat that reach the first layer, some and all of them.
func someHeats() []int64 {
	return []int64{0, 1, 2, 20, 21, 22, 333, 334, 335, 667, 668, 20000, 99999, 400000, 3333333, 25000000, 99999999, 100000000}
}

func TestHeatAsTold(t *testing.T) {
	for _, list := range hourProfiles() {
		for _, f := range heatFunctions() {
			for _, heat := range someHeats() {
				want, wanted := f.asTold(list, heat)
				got, left, code := f.of(list, heat)
				checkProfile(t, f.name, got, code, want, impl.OK)
				checkMass(t, f.name, list, got, 0)
				if left != wanted {
					t.Errorf("%s(%v, %d) leaves %d, want %d", f.name, list, heat, left, wanted)
				}
			}
		}
	}
}

// massOf weighs ice and water together.
func massOf(list []impl.Layer) int64 {
	mass := int64(0)
	for _, x := range list {
		mass += x.Ice + x.Water
	}
	return mass
}

// checkMass checks that ice and water before are those after, and what has run off, and that layers stay valid.
func checkMass(t *testing.T, what string, before, after []impl.Layer, runOff int64) {
	t.Helper()
	if massOf(before) != massOf(after)+runOff || runOff < 0 {
		t.Errorf("%s: of %d grams %d stay and %d run off", what, massOf(before), massOf(after), runOff)
	}
	if len(before) != len(after) || !impl.ValidProfile(after) {
		t.Errorf("%s: %v is no valid profile", what, after)
	}
}

// heatCase is a profile from the ground up, an amount of heat, the profile then, and the heat that is left.
type heatCase struct {
	before string
	heat   int64
	after  string
	left   int64
}

func checkHeatCases(t *testing.T, f heatFunction, cases []heatCase) {
	t.Helper()
	for _, c := range cases {
		got, left, code := f.of(profileOf(t, c.before), c.heat)
		checkProfile(t, f.name, got, code, profileOf(t, c.after), impl.OK)
		if left != c.left {
			t.Errorf("%s(%q, %d) leaves %d, want %d", f.name, c.before, c.heat, left, c.left)
		}
	}
}

func TestWarmOneLayer(t *testing.T) {
	checkHeatCases(t, heatFunctions()[0], []heatCase{
		{"1,2000,0,100,0,1,10", 334000, "1,1000,1000,100,0,1,10", 0},
		{"1,20000,5,100,-800,1,10", 0, "1,20000,5,100,-800,1,10", 0}, {"1,20000,5,100,0,1,10", 0, "1,20000,5,100,0,1,10", 0}, {"-", 0, "-", 0}, {"-", 100000000, "-", 100000000},
		// Less than the cold, just less than it, all of it, and up to a gram more.
		{"1,20000,0,100,-800,1,10", 419, "1,20000,0,100,-800,1,10", 0}, {"1,20000,0,100,-800,1,10", 420, "1,20000,0,100,-799,1,10", 0}, {"1,20000,0,100,-800,1,10", 335580, "1,20000,0,100,-1,1,10", 0}, {"1,20000,0,100,-800,1,10", 335999, "1,20000,0,100,-1,1,10", 0},
		{"1,20000,0,100,-800,1,10", 336000, "1,20000,0,100,0,1,10", 0}, {"1,20000,0,100,-800,1,10", 336333, "1,20000,0,100,0,1,10", 333}, {"1,20000,0,100,-800,1,10", 336334, "1,19999,1,100,0,1,10", 0}, {"1,20000,0,100,-800,1,10", 336335, "1,19999,1,100,0,1,10", 1}, {"1,20000,0,100,-800,1,10", 336668, "1,19998,2,100,0,1,10", 0},
		// Cold is rounded up, and degrees are rounded down.
		{"1,1,0,100,-1,1,10", 0, "1,1,0,100,-1,1,10", 0}, {"1,1,0,100,-1,1,10", 1, "1,1,0,100,0,1,10", 0}, {"1,47,0,100,-1,1,10", 1, "1,47,0,100,0,1,10", 0}, {"1,48,0,100,-1,1,10", 1, "1,48,0,100,-1,1,10", 0}, {"1,48,0,100,-1,1,10", 2, "1,48,0,100,0,1,10", 0}, {"1,48,0,100,-1,1,10", 335, "1,48,0,100,0,1,10", 333}, {"1,48,0,100,-1,1,10", 336, "1,47,1,100,0,1,10", 0},
		{"1,1,0,100,-4000,1,10", 83, "1,1,0,100,-48,1,10", 0}, {"1,1,0,100,-4000,1,10", 84, "1,1,0,100,0,1,10", 0}, {"1,1000000,0,100,-4000,1,10", 83999999, "1,1000000,0,100,-1,1,10", 0}, {"1,1000000,0,100,-4000,1,10", 84000000, "1,1000000,0,100,0,1,10", 0}, {"1,1000000,0,100,-4000,1,10", 100000000, "1,952096,47904,100,0,1,10", 64},
		// All but one gram of ice, and water up to the most.
		{"1,11,0,100,0,1,10", 3339, "1,2,9,100,0,1,10", 333}, {"1,11,0,100,0,1,10", 3340, "1,1,10,100,0,1,10", 0}, {"1,11,0,100,0,1,10", 3674, "1,1,10,100,0,1,10", 334}, {"1,1,10,100,0,1,10", 5000, "1,1,10,100,0,1,10", 5000},
		{"1,20,999998,100,0,1,10", 668, "1,18,1000000,100,0,1,10", 0}, {"1,20,999998,100,0,1,10", 1002, "1,18,1000000,100,0,1,10", 334}, {"1,20,1000000,100,0,1,10", 100000000, "1,20,1000000,100,0,1,10", 100000000}, {"1,20,1000000,100,-1,1,10", 335, "1,20,1000000,100,0,1,10", 334}, {"1,3,999998,100,0,1,10", 1000, "1,1,1000000,100,0,1,10", 332},
	})
}

func TestWarmSeveralLayers(t *testing.T) {
	checkHeatCases(t, heatFunctions()[0], []heatCase{
		// Less than a gram's heat ends, however warm the next layer is.
		{"3,10,0,300,0,2,5;1,1,0,100,0,1,10", 333, "3,10,0,300,0,2,5;1,1,0,100,0,1,10", 333}, {"3,10,0,300,0,2,5;1,1,0,100,0,1,10", 334, "3,9,1,300,0,2,5;1,1,0,100,0,1,10", 0},
		{"3,10,0,300,-900,2,5;1,1,0,100,0,1,10", 333, "3,10,0,300,-900,2,5;1,1,0,100,0,1,10", 333}, {"3,1000,0,300,-900,2,5;1,1,0,100,0,1,10", 334, "3,1000,0,300,-885,2,5;1,1,0,100,0,1,10", 0},
		{"3,10,0,300,0,2,5;1,3,0,100,-1,1,10", 1002, "3,10,0,300,0,2,5;1,1,2,100,0,1,10", 333}, {"3,10,0,300,0,2,5;1,3,0,100,-1,1,10", 1003, "3,9,1,300,0,2,5;1,1,2,100,0,1,10", 0}, {"3,10,0,300,0,2,5;1,3,0,100,0,1,10", 668, "3,10,0,300,0,2,5;1,1,2,100,0,1,10", 0},
		// A cold layer below ends with no heat, or is warm and lets the rest through.
		{"3,1000,0,300,-10,2,5;1,1,5,100,0,1,10;1,1,0,100,-1,1,10", 400, "3,1000,0,300,0,2,5;1,1,5,100,0,1,10;1,1,0,100,0,1,10", 189}, {"3,1000,0,300,-20,2,5;1,1,5,100,0,1,10;1,1,0,100,-1,1,10", 400, "3,1000,0,300,-1,2,5;1,1,5,100,0,1,10;1,1,0,100,0,1,10", 0},
		// Through all layers.
		{"3,2,0,300,-1,2,5;1,3,7,100,0,1,10;1,1,0,100,-1,1,10", 2000, "3,1,1,300,0,2,5;1,1,9,100,0,1,10;1,1,0,100,0,1,10", 996}, {"6,1,0,300,0,2,5;1,1,0,100,0,1,10;1,20,1000000,100,0,1,10", 100000000, "6,1,0,300,0,2,5;1,1,0,100,0,1,10;1,20,1000000,100,0,1,10", 100000000},
		{"3,7,0,300,-50,2,5;1,20,1000000,100,-2,1,10", 9000, "3,1,6,300,0,2,5;1,20,1000000,100,0,1,10", 6987},
	})
}

func TestCoolOneLayer(t *testing.T) {
	checkHeatCases(t, heatFunctions()[1], []heatCase{
		{"3,10000,100,300,0,3,5", 0, "3,10000,100,300,0,3,5", 0}, {"3,10000,0,300,-7,3,5", 0, "3,10000,0,300,-7,3,5", 0}, {"3,10000,0,300,-4000,3,5", 0, "3,10000,0,300,-4000,3,5", 0}, {"-", 0, "-", 0}, {"-", 100000000, "-", 100000000},
		// Less than all water, just all of it, and a little more.
		{"3,10000,100,300,0,3,5", 333, "3,10000,100,300,0,3,5", 333}, {"3,10000,100,300,0,3,5", 334, "3,10001,99,300,0,3,5", 0}, {"3,10000,100,300,-5,3,5", 33399, "3,10099,1,300,-5,3,5", 333}, {"3,10000,100,300,0,3,5", 33400, "3,10100,0,300,0,3,5", 0}, {"3,10000,100,300,0,3,5", 33612, "3,10100,0,300,0,3,5", 212}, {"3,10000,100,300,0,3,5", 33613, "3,10100,0,300,-1,3,5", 0},
		// Ice up to the most.
		{"3,999990,100,300,0,3,5", 3339, "3,999999,91,300,0,3,5", 333}, {"3,999990,100,300,0,3,5", 3340, "3,1000000,90,300,0,3,5", 0}, {"3,999990,100,300,-9,3,5", 100000000, "3,1000000,90,300,-9,3,5", 99996660}, {"3,1000000,1,300,0,3,5", 100000000, "3,1000000,1,300,0,3,5", 100000000}, {"3,999990,10,300,0,3,5", 24340, "3,1000000,0,300,-1,3,5", 0}, {"3,1000000,0,300,0,3,5", 20999, "3,1000000,0,300,0,3,5", 20999},
		// Degrees are rounded down, and what is taken is rounded up.
		{"3,1,0,300,0,3,5", 1, "3,1,0,300,-47,3,5", 0}, {"3,1,0,300,0,3,5", 2, "3,1,0,300,-95,3,5", 0}, {"3,100,0,300,0,3,5", 2, "3,100,0,300,0,3,5", 2}, {"3,100,0,300,0,3,5", 3, "3,100,0,300,-1,3,5", 0}, {"3,100,0,300,0,3,5", 4, "3,100,0,300,-1,3,5", 1}, {"3,110,0,300,-1,3,5", 9, "3,110,0,300,-4,3,5", 2}, {"3,10100,0,300,0,3,5", 16600, "3,10100,0,300,-78,3,5", 56},
		// Down to the least degrees and no further.
		{"3,1000,0,300,-3999,3,5", 20, "3,1000,0,300,-3999,3,5", 20}, {"3,1000,0,300,-3999,3,5", 21, "3,1000,0,300,-4000,3,5", 0}, {"3,1000,0,300,-3999,3,5", 22, "3,1000,0,300,-4000,3,5", 1}, {"3,1000,0,300,-3999,3,5", 100000000, "3,1000,0,300,-4000,3,5", 99999979}, {"3,1,0,300,-3999,3,5", 1, "3,1,0,300,-4000,3,5", 0}, {"3,1,0,300,-3952,3,5", 10, "3,1,0,300,-4000,3,5", 8},
		{"3,1000,0,300,-4000,3,5", 500, "3,1000,0,300,-4000,3,5", 500}, {"3,1000,1,300,-4000,3,5", 500, "3,1001,0,300,-4000,3,5", 166}, {"3,1000000,0,300,0,3,5", 84000001, "3,1000000,0,300,-4000,3,5", 1},
	})
}

func TestCoolSeveralLayers(t *testing.T) {
	checkHeatCases(t, heatFunctions()[1], []heatCase{
		// Water that is left, and degrees above the least ones, end it, whatever heat is left.
		{"6,500,9,300,0,2,5;6,1000000,1,300,0,3,5", 100000000, "6,500,9,300,0,2,5;6,1000000,1,300,0,3,5", 100000000}, {"6,1,0,300,0,2,5;6,10000,0,300,0,3,5", 209, "6,1,0,300,0,2,5;6,10000,0,300,0,3,5", 209}, {"6,1,9,300,0,2,5;6,10000,0,300,-3998,3,5", 419, "6,1,9,300,0,2,5;6,10000,0,300,-3999,3,5", 209},
		// The least degrees let the rest through.
		{"6,1,0,300,0,2,5;6,10000,0,300,-3999,3,5", 211, "6,1,0,300,-47,2,5;6,10000,0,300,-4000,3,5", 0}, {"6,1,9,300,0,2,5;6,10000,0,300,-3999,3,5", 600, "6,2,8,300,0,2,5;6,10000,0,300,-4000,3,5", 56}, {"6,1,9,300,0,2,5;6,10000,2,300,-4000,3,5", 1002, "6,2,8,300,0,2,5;6,10002,0,300,-4000,3,5", 0}, {"6,1,9,300,0,2,5;6,10000,2,300,-4000,3,5", 667, "6,1,9,300,0,2,5;6,10001,1,300,-4000,3,5", 333},
		{"6,10,0,300,-4000,2,5;6,10,0,300,-4000,2,5;6,10,0,300,-4000,2,5", 777, "6,10,0,300,-4000,2,5;6,10,0,300,-4000,2,5;6,10,0,300,-4000,2,5", 777}, {"6,10,3,300,-9,2,5;6,10,0,300,-4000,2,5;6,10,1,300,-4000,2,5", 777, "6,11,2,300,-9,2,5;6,10,0,300,-4000,2,5;6,11,0,300,-4000,2,5", 109},
		// Through all layers.
		{"6,10,0,300,0,2,5;6,9,1,300,0,2,5", 3000, "6,10,0,300,-4000,2,5;6,10,0,300,-4000,2,5", 986}, {"6,10,0,300,-3000,2,5;6,10,0,300,-3999,2,5;6,10,0,300,-3999,2,5", 1000, "6,10,0,300,-4000,2,5;6,10,0,300,-4000,2,5;6,10,0,300,-4000,2,5", 788},
	})
}

func TestHeatErrors(t *testing.T) {
	for _, f := range heatFunctions() {
		for _, heat := range append(otherNumbers(), -1, -100000000, 100000001) {
			for _, list := range [][]impl.Layer{nil, {goodLayer()}, mixedProfile()} {
				got, left, code := f.of(list, heat)
				checkNoProfile(t, f.name, got, code, impl.ErrRange)
				checkCoded(t, f.name, left, code, 0, impl.ErrRange)
			}
		}
		for _, list := range badProfiles() {
			for _, heat := range append(otherNumbers(), -1, 0, 1, 100000000, 100000001) {
				got, left, code := f.of(list, heat)
				checkNoProfile(t, f.name, got, code, impl.ErrInvalid)
				checkCoded(t, f.name, left, code, 0, impl.ErrInvalid)
			}
		}
	}
}

func TestDrainProfile(t *testing.T) {
	for _, list := range hourProfiles() {
		want, wanted := drainedAsTold(list)
		got, runOff, code := impl.DrainProfile(list)
		checkProfile(t, "DrainProfile", got, code, want, impl.OK)
		checkCoded(t, "what runs out", runOff, code, wanted, impl.OK)
		checkMass(t, "DrainProfile", list, got, runOff)
	}
	for _, list := range badProfiles() {
		got, runOff, code := impl.DrainProfile(list)
		checkNoProfile(t, "DrainProfile of a bad profile", got, code, impl.ErrInvalid)
		checkCoded(t, "what runs out", runOff, code, 0, impl.ErrInvalid)
	}
}

func TestKnownDrains(t *testing.T) {
	for _, c := range []struct {
		before, after string
		runOff        int64
	}{
		{"-", "-", 0}, {"1,1000,0,100,0,1,10", "1,1000,0,100,0,1,10", 0}, {"1,1000,59,100,-7,1,10", "1,1000,59,100,-7,1,10", 0}, {"1,1000,60,100,0,1,10", "1,1000,60,100,0,1,10", 0}, {"1,1000,61,100,0,1,10", "1,1000,60,100,0,1,10", 1},
		// What a layer holds is rounded down.
		{"1,1,1,100,0,1,10", "1,1,0,100,0,1,10", 1}, {"1,16,1,100,0,1,10", "1,16,0,100,0,1,10", 1}, {"1,17,1,100,0,1,10", "1,17,1,100,0,1,10", 0}, {"1,17,2,100,0,1,10", "1,17,1,100,0,1,10", 1}, {"1,999,60,100,0,1,10", "1,999,59,100,0,1,10", 1}, {"1,33,9,100,0,1,10", "1,33,1,100,0,1,10", 8}, {"1,34,9,100,0,1,10", "1,34,2,100,0,1,10", 7},
		{"1,1000000,1000000,100,0,1,10", "1,1000000,60000,100,0,1,10", 940000},
		// What runs into a layer that is dry, that has room, that is full, and that has too much itself.
		{"3,1000,0,300,0,3,5;1,1000,61,100,0,1,10", "3,1000,1,300,0,3,5;1,1000,60,100,0,1,10", 0}, {"3,1000,58,300,0,3,5;1,1000,62,100,0,1,10", "3,1000,60,300,0,3,5;1,1000,60,100,0,1,10", 0}, {"3,1000,58,300,0,3,5;1,1000,63,100,0,1,10", "3,1000,60,300,0,3,5;1,1000,60,100,0,1,10", 1}, {"3,1000,60,300,0,3,5;1,1000,65,100,0,1,10", "3,1000,60,300,0,3,5;1,1000,60,100,0,1,10", 5}, {"3,1000,100,300,0,3,5;1,1000,65,100,0,1,10", "3,1000,60,300,0,3,5;1,1000,60,100,0,1,10", 45},
		// Through layers that hold nothing, into one far below; nothing runs up.
		{"3,1000,10,300,0,3,5;1,16,0,100,0,1,10;1,1,4,100,0,1,10;1,1,5,100,0,1,10", "3,1000,19,300,0,3,5;1,16,0,100,0,1,10;1,1,0,100,0,1,10;1,1,0,100,0,1,10", 0}, {"3,1,50,300,0,3,5;1,1000,0,100,0,1,10", "3,1,0,300,0,3,5;1,1000,0,100,0,1,10", 50}, {"3,5000,100,300,-900,3,5;1,5000,400,100,-900,1,10", "3,5000,200,300,-900,3,5;1,5000,300,100,-900,1,10", 0},
	} {
		got, runOff, code := impl.DrainProfile(profileOf(t, c.before))
		checkProfile(t, "DrainProfile", got, code, profileOf(t, c.after), impl.OK)
		checkCoded(t, "what runs out", runOff, code, c.runOff, impl.OK)
	}
	got, runOff, code := impl.DrainProfile(layersOf(greatestLayer(), impl.MaxLayers))
	checkCoded(t, "what runs out", runOff, code, 16*940000, impl.OK)
	checkMass(t, "DrainProfile", layersOf(greatestLayer(), impl.MaxLayers), got, runOff)
}
