package tests

import (
	"math/rand/v2"
	"slices"
	"testing"

	"loop.example/g01013/impl"
)

// profileOf reads a profile that must be valid.
func profileOf(t *testing.T, text string) []impl.Layer {
	t.Helper()
	list, ok := impl.ReadProfile(text)
	if !ok {
		t.Fatalf("no profile: %q", text)
	}
	return list
}

// mixedLayer returns a layer with a number of each field that is often one of its limits.
func mixedLayer(mix *rand.Rand) impl.Layer {
	x := impl.Layer{}
	for _, field := range layerFields() {
		choices := []int64{field.least, field.greatest, field.least + mix.Int64N(field.greatest-field.least+1), field.least + mix.Int64N(1+(field.greatest-field.least)/100), 0}
		*field.of(&x) = max(field.least, choices[mix.IntN(len(choices))])
		*field.of(&x) = min(field.greatest, *field.of(&x))
	}
	return x
}

// mixedProfiles holds profiles that are always the same, from two layers to as many as may be.
func mixedProfiles(count int) [][]impl.Layer {
	mix := rand.New(rand.NewPCG(5, 2026))
	profiles := make([][]impl.Layer, count)
	for i := range profiles {
		for range 2 + i%(impl.MaxLayers-1) {
			profiles[i] = append(profiles[i], mixedLayer(mix))
		}
	}
	return profiles
}

// hourProfiles holds the profiles with which the functions of chapter 5 are compared with what it tells.
func hourProfiles() [][]impl.Layer { return append(goodProfiles(), mixedProfiles(150)...) }

// settledAsTold adds one to the density for each full share of the load that is in the product.
func settledAsTold(x impl.Layer, load int64) impl.Layer {
	for product := (550 - x.Density) * load; product >= 10000000 && x.Density < 550; product -= 10000000 {
		x.Density++
	}
	if x.Age < 10000 {
		x.Age++
	}
	return x
}

// settledProfileAsTold weighs what lies above each layer.
func settledProfileAsTold(list []impl.Layer) []impl.Layer {
	settled := []impl.Layer{}
	for k, x := range list {
		load := int64(0)
		for _, above := range list[k+1:] {
			load += above.Ice + above.Water
		}
		settled = append(settled, settledAsTold(x, load))
	}
	return settled
}

func checkSettled(t *testing.T, x impl.Layer, load int64, want impl.Layer) {
	t.Helper()
	if got, code := impl.SettleLayer(x, load); !equalLayers(got, want) || code != impl.OK {
		t.Errorf("SettleLayer(%v, %d) = %v, %d, want %v", x, load, got, code, want)
	}
}

func TestConstantsOfHours(t *testing.T) {
	got := []int64{impl.MeltHeat, impl.MaxJoules, impl.HoldShare, impl.MaxSettle, impl.FacetStep}
	if want := []int64{334, 100000000, 60, 550, 1000}; !slices.Equal(got, want) {
		t.Errorf("got %v, want %v", got, want)
	}
}

func TestSettleLayer(t *testing.T) {
	for _, c := range []struct{ density, load, want int64 }{
		{300, 0, 300}, {300, 39999, 300}, {300, 40000, 301}, {300, 79999, 301}, {300, 80000, 302}, {100, 200000, 109}, {100, 222222, 109}, {100, 222223, 110}, {30, 19230, 30}, {30, 19231, 31},
		// Just below, at and above the greatest density that settles.
		{549, 9999999, 549}, {549, 10000000, 550}, {549, 32000000, 550}, {550, 32000000, 550}, {551, 32000000, 551}, {551, 0, 551}, {900, 32000000, 900}, {548, 4999999, 548}, {548, 5000000, 549}, {548, 10000000, 550},
		// Just as far as it, one less, and beyond it.
		{540, 9999999, 549}, {540, 10000000, 550}, {540, 11000000, 550}, {540, 32000000, 550}, {30, 9999999, 549}, {30, 10000000, 550}, {30, 32000000, 550}, {300, 10000001, 550},
	} {
		x := goodLayer()
		x.Density = c.density
		want := x
		want.Density, want.Age = c.want, x.Age+1
		checkSettled(t, x, c.load, want)
	}
}

func TestSettleLayerAge(t *testing.T) {
	for _, c := range [][2]int64{{0, 1}, {1, 2}, {9998, 9999}, {9999, 10000}, {10000, 10000}} {
		for _, load := range []int64{0, 1000000, 32000000} {
			x := greatestLayer()
			x.Age = c[0]
			want := x
			want.Age = c[1]
			checkSettled(t, x, load, want)
		}
	}
}

func TestSettleLayerOfManyLayers(t *testing.T) {
	for _, list := range hourProfiles() {
		for _, x := range list {
			for _, load := range []int64{0, 1, 19231, 123456, 9999999, 10000000, 31999999, 32000000} {
				checkSettled(t, x, load, settledAsTold(x, load))
			}
		}
	}
}

func TestSettleLayerErrors(t *testing.T) {
	for _, load := range append(otherNumbers(), -1, 32000001) {
		for _, x := range []impl.Layer{goodLayer(), leastLayer(), greatestLayer()} {
			if got, code := impl.SettleLayer(x, load); got != (impl.Layer{}) || code != impl.ErrRange {
				t.Errorf("SettleLayer(%v, %d) = %v, %d", x, load, got, code)
			}
		}
		for _, x := range badLayers() {
			if got, code := impl.SettleLayer(x, load); got != (impl.Layer{}) || code != impl.ErrInvalid {
				t.Errorf("SettleLayer(%v, %d) = %v, %d", x, load, got, code)
			}
		}
	}
	for _, x := range badLayers() {
		if got, code := impl.SettleLayer(x, 0); got != (impl.Layer{}) || code != impl.ErrInvalid {
			t.Errorf("SettleLayer(%v, 0) = %v, %d", x, got, code)
		}
	}
}

func TestSettleProfile(t *testing.T) {
	for _, list := range hourProfiles() {
		got, code := impl.SettleProfile(list)
		checkProfile(t, "SettleProfile", got, code, settledProfileAsTold(list), impl.OK)
		checkSameMass(t, "SettleProfile", list, got)
		for k, x := range list {
			load, _ := impl.LoadAbove(list, int64(k))
			if want, code := impl.SettleLayer(x, load); !equalLayers(got[k], want) || code != impl.OK {
				t.Errorf("layer %d of SettleProfile(%v) = %v, want %v, %d", k, list, got[k], want, code)
			}
		}
	}
	for _, list := range badProfiles() {
		got, code := impl.SettleProfile(list)
		checkNoProfile(t, "SettleProfile of a bad profile", got, code, impl.ErrInvalid)
	}
}

func TestKnownSettledProfiles(t *testing.T) {
	for _, c := range [][2]string{
		{"-", "-"},
		{"1,1000000,0,30,0,1,0", "1,1000000,0,30,0,1,1"},
		// Water is a load as well, and a layer is none of its own.
		{"1,5,0,100,-5,1,7;2,100000,100000,549,0,2,10000", "1,5,0,109,-5,1,8;2,100000,100000,549,0,2,10000"},
		{"3,1,0,300,-1,4,9;3,39998,1,300,-1,4,9;3,40000,0,300,-1,4,9", "3,1,0,301,-1,4,10;3,39998,1,301,-1,4,10;3,40000,0,300,-1,4,10"},
		{"3,1,0,300,-1,4,9;3,39998,2,300,-1,4,9;3,39999,0,300,-1,4,9", "3,1,0,301,-1,4,10;3,39998,2,300,-1,4,10;3,39999,0,300,-1,4,10"},
	} {
		got, code := impl.SettleProfile(profileOf(t, c[0]))
		checkProfile(t, "SettleProfile", got, code, profileOf(t, c[1]), impl.OK)
	}
}
