package tests

import (
	"slices"
	"testing"

	"loop.example/g01013/impl"
)

// checkProfile compares a profile and a code with those wanted.
func checkProfile(t *testing.T, what string, got []impl.Layer, code int64, want []impl.Layer, wanted int64) {
	t.Helper()
	if !slices.EqualFunc(got, want, equalLayers) || code != wanted {
		t.Errorf("%s = %v, %d, want %v, %d", what, got, code, want, wanted)
	}
}

// checkNoProfile checks that there is an error and nothing else.
func checkNoProfile(t *testing.T, what string, got []impl.Layer, code, wanted int64) {
	t.Helper()
	checkProfile(t, what, got, code, nil, wanted)
}

// checkSameMass checks that two profiles have as much ice and as much water.
func checkSameMass(t *testing.T, what string, before, after []impl.Layer) {
	t.Helper()
	for i, field := range layerFields()[1:3] {
		sum := int64(0)
		for _, x := range before {
			sum += *field.of(&x)
		}
		for _, x := range after {
			sum -= *field.of(&x)
		}
		if sum != 0 {
			t.Errorf("%s: %d of the number %d is lost", what, sum, i)
		}
	}
}

func TestAddLayer(t *testing.T) {
	for _, list := range goodProfiles() {
		for _, x := range []impl.Layer{goodLayer(), leastLayer(), greatestLayer(), thinLayer()} {
			got, code := impl.AddLayer(list, x)
			if len(list) == impl.MaxLayers {
				checkNoProfile(t, "AddLayer to a full profile", got, code, impl.ErrFull)
				continue
			}
			checkProfile(t, "AddLayer", got, code, slices.Concat(list, []impl.Layer{x}), impl.OK)
		}
	}
	list := []impl.Layer{}
	for range impl.MaxLayers {
		got, code := impl.AddLayer(list, goodLayer())
		checkProfile(t, "AddLayer", got, code, layersOf(goodLayer(), len(list)+1), impl.OK)
		list = got
	}
	got, code := impl.AddLayer(list, goodLayer())
	checkNoProfile(t, "AddLayer to a full profile", got, code, impl.ErrFull)
}

func TestAddLayerInvalid(t *testing.T) {
	for _, list := range badProfiles() {
		got, code := impl.AddLayer(list, goodLayer())
		checkNoProfile(t, "AddLayer to a bad profile", got, code, impl.ErrInvalid)
	}
	for _, x := range badLayers() {
		for _, list := range goodProfiles() {
			got, code := impl.AddLayer(list, x)
			checkNoProfile(t, "AddLayer of a bad layer", got, code, impl.ErrInvalid)
		}
	}
}

// joinedAsTold is the layer that chapter 3 tells for two layers; it need not be valid.
func joinedAsTold(x, y impl.Layer) impl.Layer {
	ice := x.Ice + y.Ice
	return impl.Layer{
		Form: x.Form, Ice: ice, Water: x.Water + y.Water,
		Density:  roundedQuotient(x.Ice*x.Density+y.Ice*y.Density, ice).Int64(),
		Degrees:  roundedQuotient(x.Ice*x.Degrees+y.Ice*y.Degrees, ice).Int64(),
		Hardness: min(x.Hardness, y.Hardness), Age: max(x.Age, y.Age),
	}
}

// checkJoin compares JoinLayers with what chapter 3 tells for a valid profile.
func checkJoin(t *testing.T, list []impl.Layer, k int) {
	t.Helper()
	got, code := impl.JoinLayers(list, int64(k))
	joined := joinedAsTold(list[k], list[k+1])
	switch {
	case list[k].Form != list[k+1].Form:
		checkNoProfile(t, "JoinLayers of two forms", got, code, impl.ErrState)
	case joined.Ice > impl.MaxIce || joined.Water > impl.MaxIce:
		checkNoProfile(t, "JoinLayers of too much", got, code, impl.ErrFull)
	default:
		checkProfile(t, "JoinLayers", got, code, slices.Concat(list[:k], []impl.Layer{joined}, list[k+2:]), impl.OK)
		checkSameMass(t, "JoinLayers", list, got)
	}
}

func TestJoinLayersOfProfiles(t *testing.T) {
	for _, list := range goodProfiles() {
		for k := range max(0, len(list)-1) {
			checkJoin(t, list, k)
		}
		// The last layer has none above it, and no layers have no last one.
		for _, k := range append(otherNumbers(), -1, int64(len(list))-1, int64(len(list)), int64(len(list))+1) {
			got, code := impl.JoinLayers(list, k)
			checkNoProfile(t, "JoinLayers outside", got, code, impl.ErrRange)
		}
	}
}

func TestJoinLayersOfLikeLayers(t *testing.T) {
	layers := []impl.Layer{}
	for _, ice := range []int64{1, 2, 3, 500000, 999999} {
		for _, density := range []int64{30, 31, 107, 900} {
			for _, degrees := range []int64{-4000, -501, -1, 0} {
				n := ice + density - degrees
				layers = append(layers, impl.Layer{Form: 4, Ice: ice, Water: n % 7, Density: density, Degrees: degrees, Hardness: 1 + n%6, Age: n % 10001})
			}
		}
	}
	for _, x := range layers {
		for _, y := range layers {
			checkJoin(t, []impl.Layer{x, y}, 0)
		}
	}
}

func TestKnownJoins(t *testing.T) {
	for _, c := range [][3]string{
		{"1,20000,100,100,-800,1,10", "1,10000,50,40,-400,2,5", "1,30000,150,80,-667,1,10"},
		// A mean between two numbers is the one that is farther from 0.
		{"2,10,0,100,-1,3,7", "2,10,0,101,-2,5,9", "2,20,0,101,-2,3,9"},
		{"2,10,0,101,-2,5,9", "2,10,0,100,-1,3,7", "2,20,0,101,-2,3,9"},
		{"2,10,0,100,0,6,0", "2,10,0,103,-1,6,0", "2,20,0,102,-1,6,0"},
		{"5,2,1,100,0,1,0", "5,1,1,101,-1,1,0", "5,3,2,100,0,1,0"},
		{"5,1,1,100,0,1,0", "5,2,1,101,-1,1,0", "5,3,2,101,-1,1,0"},
		{"6,999999,1000000,900,0,1,10000", "6,1,0,30,-4000,6,0", "6,1000000,1000000,900,0,1,10000"},
		{"6,500000,500000,900,-4000,6,0", "6,500000,500000,900,-4000,6,0", "6,1000000,1000000,900,-4000,6,0"},
	} {
		list, ok := impl.ReadProfile(c[0] + ";" + c[1])
		want, isProfile := impl.ReadProfile(c[2])
		if !ok || !isProfile {
			t.Fatal(c)
		}
		got, code := impl.JoinLayers(list, 0)
		checkProfile(t, "JoinLayers", got, code, want, impl.OK)
	}
}

// pairOf returns two layers of one form with so much of ice and water.
func pairOf(ice, water, moreIce, moreWater int64) []impl.Layer {
	x, y := goodLayer(), goodLayer()
	x.Ice, x.Water, y.Ice, y.Water = ice, water, moreIce, moreWater
	return []impl.Layer{x, y}
}

func TestJoinLayersOfTooMuch(t *testing.T) {
	for _, c := range []struct {
		list []impl.Layer
		want int64
	}{
		{pairOf(999999, 0, 1, 0), impl.OK}, {pairOf(1000000, 0, 1, 0), impl.ErrFull}, {pairOf(1, 0, 1000000, 0), impl.ErrFull}, {pairOf(500000, 0, 500001, 0), impl.ErrFull},
		{pairOf(1, 1000000, 1, 0), impl.OK}, {pairOf(1, 1000000, 1, 1), impl.ErrFull}, {pairOf(1, 1, 1, 1000000), impl.ErrFull}, {pairOf(1, 500001, 1, 500000), impl.ErrFull},
		{pairOf(999999, 999999, 1, 1), impl.OK}, {pairOf(1000000, 1000000, 1000000, 1000000), impl.ErrFull},
	} {
		got, code := impl.JoinLayers(c.list, 0)
		if code != c.want || (len(got) == 1) != (code == impl.OK) {
			t.Errorf("JoinLayers(%v) = %v, %d, want %d", c.list, got, code, c.want)
		}
		checkJoin(t, c.list, 0)
	}
}

func TestOrderOfErrorsOfJoinLayers(t *testing.T) {
	for _, list := range badProfiles() {
		for _, k := range append(otherNumbers(), -1, 0, 1, int64(len(list))) {
			got, code := impl.JoinLayers(list, k)
			checkNoProfile(t, "JoinLayers of a bad profile", got, code, impl.ErrInvalid)
		}
	}
	other := pairOf(1000000, 1000000, 1000000, 1000000)
	other[1].Form = impl.FoNew
	got, code := impl.JoinLayers(other, 0)
	checkNoProfile(t, "JoinLayers of two forms and too much", got, code, impl.ErrState)
	got, code = impl.JoinLayers(other, 1)
	checkNoProfile(t, "JoinLayers of the last layer", got, code, impl.ErrRange)
	got, code = impl.JoinLayers(other, -1)
	checkNoProfile(t, "JoinLayers of no layer", got, code, impl.ErrRange)
}

// checkSplit compares SplitLayer with what chapter 3 tells for a valid profile that is not full.
func checkSplit(t *testing.T, list []impl.Layer, k int, ice int64) {
	t.Helper()
	lower, upper := list[k], list[k]
	lower.Ice, lower.Water = ice, list[k].Water*ice/list[k].Ice
	upper.Ice, upper.Water = list[k].Ice-lower.Ice, list[k].Water-lower.Water
	got, code := impl.SplitLayer(list, int64(k), ice)
	checkProfile(t, "SplitLayer", got, code, slices.Concat(list[:k], []impl.Layer{lower, upper}, list[k+1:]), impl.OK)
	checkSameMass(t, "SplitLayer", list, got)
	again, code := impl.JoinLayers(got, int64(k))
	checkProfile(t, "JoinLayers of SplitLayer", again, code, list, impl.OK)
}

func TestSplitLayerOfProfiles(t *testing.T) {
	for _, list := range goodProfiles() {
		for k, x := range list {
			for _, ice := range []int64{1, 2, x.Ice / 3, x.Ice / 2, x.Ice - 2, x.Ice - 1} {
				if ice < 1 || ice >= x.Ice {
					continue
				}
				if len(list) < impl.MaxLayers {
					checkSplit(t, list, k, ice)
					continue
				}
				got, code := impl.SplitLayer(list, int64(k), ice)
				checkNoProfile(t, "SplitLayer of a full profile", got, code, impl.ErrFull)
			}
		}
	}
}

func TestSplitLayerAtEachGram(t *testing.T) {
	for _, water := range []int64{0, 1, 5, 29, 30, 31, 1000000} {
		list := pairOf(30, water, 31, 7)
		for ice := int64(1); ice < 30; ice++ {
			checkSplit(t, list, 0, ice)
			checkSplit(t, list, 1, ice+1)
		}
	}
}

func TestKnownSplits(t *testing.T) {
	for _, c := range []struct {
		text string
		ice  int64
		want string
	}{
		{"1,20000,100,100,-800,1,10", 5000, "1,5000,25,100,-800,1,10;1,15000,75,100,-800,1,10"},
		{"1,3,2,100,-800,1,10", 1, "1,1,0,100,-800,1,10;1,2,2,100,-800,1,10"},
		{"1,3,2,100,-800,1,10", 2, "1,2,1,100,-800,1,10;1,1,1,100,-800,1,10"},
		{"4,2,1,30,-4000,6,10000", 1, "4,1,0,30,-4000,6,10000;4,1,1,30,-4000,6,10000"},
		{"6,1000000,1000000,900,0,6,0", 999999, "6,999999,999999,900,0,6,0;6,1,1,900,0,6,0"},
		{"6,1000000,999999,900,0,6,0", 999999, "6,999999,999998,900,0,6,0;6,1,1,900,0,6,0"},
	} {
		list, ok := impl.ReadProfile(c.text)
		want, isProfile := impl.ReadProfile(c.want)
		if !ok || !isProfile {
			t.Fatal(c)
		}
		got, code := impl.SplitLayer(list, 0, c.ice)
		checkProfile(t, "SplitLayer", got, code, want, impl.OK)
	}
}

func TestSplitLayerOutside(t *testing.T) {
	for _, list := range goodProfiles() {
		for _, k := range append(otherNumbers(), -1, int64(len(list)), int64(len(list))+1) {
			got, code := impl.SplitLayer(list, k, 1)
			checkNoProfile(t, "SplitLayer of no layer", got, code, impl.ErrRange)
		}
		// These numbers are checked before the profile is found full.
		for k, x := range list {
			for _, ice := range append(otherNumbers(), -1, 0, x.Ice, x.Ice+1) {
				got, code := impl.SplitLayer(list, int64(k), ice)
				checkNoProfile(t, "SplitLayer at no gram", got, code, impl.ErrRange)
			}
		}
	}
	for _, list := range badProfiles() {
		for _, n := range append(otherNumbers(), -1, 0, 1, int64(len(list))) {
			got, code := impl.SplitLayer(list, n, n)
			checkNoProfile(t, "SplitLayer of a bad profile", got, code, impl.ErrInvalid)
			got, code = impl.SplitLayer(list, 0, n)
			checkNoProfile(t, "SplitLayer of a bad profile", got, code, impl.ErrInvalid)
		}
	}
}

func TestSplitLayerFillsAProfile(t *testing.T) {
	list := layersOf(goodLayer(), impl.MaxLayers-1)
	for _, k := range []int{0, 7, impl.MaxLayers - 2} {
		checkSplit(t, list, k, 20000)
	}
	full := layersOf(goodLayer(), impl.MaxLayers)
	got, code := impl.SplitLayer(full, impl.MaxLayers-1, 20000)
	checkNoProfile(t, "SplitLayer of a full profile", got, code, impl.ErrFull)
	got, code = impl.SplitLayer(full, impl.MaxLayers, 20000)
	checkNoProfile(t, "SplitLayer outside a full profile", got, code, impl.ErrRange)
	// A joined pair makes room again.
	checkJoin(t, full, 0)
	checkJoin(t, full, impl.MaxLayers-2)
}
