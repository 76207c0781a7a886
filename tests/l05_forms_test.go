package tests

import (
	"testing"

	"loop.example/g01013/impl"
)

// gradientAsTold is the gradient that chapter 5 tells for two layers, in wide integers.
func gradientAsTold(lower, upper impl.Layer) int64 {
	apart := (thicknessAsTold(lower) + thicknessAsTold(upper)) / 2
	if apart < 1 {
		apart = 1
	}
	return roundedQuotient(1000*(upper.Degrees-lower.Degrees), apart).Int64()
}

func TestGradientOf(t *testing.T) {
	for _, list := range hourProfiles() {
		for k := range max(0, len(list)-1) {
			got, code := impl.GradientOf(list, int64(k))
			checkCoded(t, "GradientOf", got, code, gradientAsTold(list[k], list[k+1]), impl.OK)
		}
		// The last layer has none above it, and no layers have no last one.
		for _, k := range append(otherNumbers(), -1, int64(len(list))-1, int64(len(list)), int64(len(list))+1) {
			got, code := impl.GradientOf(list, k)
			checkCoded(t, "GradientOf outside", got, code, 0, impl.ErrRange)
		}
	}
	for _, list := range badProfiles() {
		for _, k := range append(otherNumbers(), -1, 0, 1, int64(len(list))) {
			got, code := impl.GradientOf(list, k)
			checkCoded(t, "GradientOf of a bad profile", got, code, 0, impl.ErrInvalid)
		}
	}
}

// thickLayer is so many millimetres thick.
func thickLayer(thickness, degrees int64) impl.Layer {
	return impl.Layer{Form: impl.FoNew, Ice: max(1, 100*thickness), Density: 100, Degrees: degrees, Hardness: 1}
}

func TestKnownGradients(t *testing.T) {
	for _, c := range []struct{ lower, upper, from, to, want int64 }{
		// Without thickness, or less than a millimetre of it between the middles.
		{0, 0, 0, 0, 0}, {0, 0, -100, -300, -200000}, {0, 0, 0, -4000, -4000000}, {0, 0, -4000, 0, 4000000}, {0, 1, -5, -8, -3000}, {1, 0, -8, -5, 3000}, {1, 1, -8, -5, 3000},
		// Half of an odd sum is rounded down.
		{1, 2, -5, -8, -3000}, {2, 2, -5, -8, -1500}, {2, 3, -5, -8, -1500}, {3, 2, -5, -8, -1500}, {0, 3, -5, -8, -3000}, {0, 4, -5, -8, -1500}, {5, 0, -8, -5, 1500}, {100, 101, 0, -7, -70}, {101, 101, 0, -7, -69},
		// A gradient between two numbers is the one that is farther from 0.
		{16, 16, 0, -1, -63}, {16, 16, -1, 0, 63}, {15, 17, -1, 0, 63}, {32, 32, -1, 0, 31}, {32, 32, 0, -1, -31}, {3, 3, 0, -1, -333}, {3, 3, 0, -2, -667}, {3, 3, -2, 0, 667},
		{1000, 1000, -1000, 0, 1000}, {1000, 1000, 0, -1999, -1999}, {1000, 3000, -4000, 0, 2000}, {10000, 10000, -4000, -4000, 0}, {10000, 10000, -4000, 0, 400}, {2000, 2000, 0, -1, -1}, {2001, 2001, 0, -1, 0},
	} {
		got, code := impl.GradientOf([]impl.Layer{thickLayer(c.lower, c.from), thickLayer(c.upper, c.to)}, 0)
		checkCoded(t, "GradientOf", got, code, c.want, impl.OK)
	}
}

func TestGradientOfFirstAndLastPair(t *testing.T) {
	list := []impl.Layer{thickLayer(100, -10), thickLayer(100, -30), thickLayer(100, -70), thickLayer(100, 0)}
	for k, want := range []int64{-200, -400, 700} {
		got, code := impl.GradientOf(list, int64(k))
		checkCoded(t, "GradientOf", got, code, want, impl.OK)
	}
	for _, k := range []int64{-1, 3, 4} {
		got, code := impl.GradientOf(list, k)
		checkCoded(t, "GradientOf outside", got, code, 0, impl.ErrRange)
	}
}

// formAsTold goes through the rules of chapter 5 in their order.
func formAsTold(x impl.Layer, g int64) int64 {
	switch {
	case x.Water > 0 || x.Form == impl.FoMelt:
		return impl.FoMelt
	case g >= 2000 && x.Age >= 72:
		return impl.FoHoar
	case g >= 1000 && x.Age >= 24:
		return impl.FoFacet
	case x.Form == impl.FoNew && x.Age >= 48:
		return impl.FoBroken
	case x.Form == impl.FoBroken && x.Age >= 120:
		return impl.FoRound
	}
	return x.Form
}

// formsAsTold finds the greatest gradient of each layer in the profile as it was.
func formsAsTold(list []impl.Layer) []impl.Layer {
	changed := []impl.Layer{}
	for k, x := range list {
		g := int64(0)
		if k > 0 {
			g = max(g, gradientAsTold(list[k-1], x), -gradientAsTold(list[k-1], x))
		}
		if k+1 < len(list) {
			g = max(g, gradientAsTold(x, list[k+1]), -gradientAsTold(x, list[k+1]))
		}
		x.Form = formAsTold(x, g)
		changed = append(changed, x)
	}
	return changed
}

func TestChangeForms(t *testing.T) {
	for _, list := range hourProfiles() {
		got, code := impl.ChangeForms(list)
		checkProfile(t, "ChangeForms", got, code, formsAsTold(list), impl.OK)
		checkSameMass(t, "ChangeForms", list, got)
	}
	for _, list := range badProfiles() {
		got, code := impl.ChangeForms(list)
		checkNoProfile(t, "ChangeForms of a bad profile", got, code, impl.ErrInvalid)
	}
}

// betweenGradients puts a layer between two ones, all a metre thick, so that the gradients to them are as stated.
func betweenGradients(form, age, water, below, above int64) []impl.Layer {
	lower, x, upper := thickLayer(1000, -2000-below), thickLayer(1000, -2000), thickLayer(1000, -2000+above)
	x.Form, x.Age, x.Water = form, age, water
	return []impl.Layer{lower, x, upper}
}

// checkMiddleForm checks the form that a layer between two ones gets.
func checkMiddleForm(t *testing.T, form, age, water, below, above, want int64) {
	t.Helper()
	got, code := impl.ChangeForms(betweenGradients(form, age, water, below, above))
	if len(got) != 3 || code != impl.OK {
		t.Fatalf("ChangeForms = %v, %d", got, code)
	}
	if got[1].Form != want {
		t.Errorf("form %d, age %d, water %d, gradients %d and %d become %d, want %d", form, age, water, below, above, got[1].Form, want)
	}
}

func TestEachFormByEachRule(t *testing.T) {
	gradients := []int64{0, 1, 999, 1000, 1001, 1999, 2000}
	for form := int64(impl.FoNew); form <= impl.FoMelt; form++ {
		for _, age := range []int64{0, 23, 24, 25, 47, 48, 49, 71, 72, 73, 119, 120, 121, 10000} {
			for _, water := range []int64{0, 1, 1000000} {
				for _, below := range gradients {
					for _, above := range gradients {
						want := formAsTold(impl.Layer{Form: form, Age: age, Water: water}, max(below, above))
						checkMiddleForm(t, form, age, water, below, above, want)
						checkMiddleForm(t, form, age, water, -below, above, want)
						checkMiddleForm(t, form, age, water, below, -above, want)
						checkMiddleForm(t, form, age, water, -below, -above, want)
					}
				}
			}
		}
	}
}

func TestKnownForms(t *testing.T) {
	for _, c := range []struct{ form, age, water, gradient, want int64 }{
		{impl.FoNew, 0, 1, 0, impl.FoMelt}, {impl.FoHoar, 10000, 1, 2000, impl.FoMelt}, {impl.FoMelt, 10000, 0, 2000, impl.FoMelt}, {impl.FoMelt, 0, 0, 0, impl.FoMelt},
		{impl.FoRound, 72, 0, 2000, impl.FoHoar}, {impl.FoRound, 72, 0, 1999, impl.FoFacet}, {impl.FoRound, 71, 0, 2000, impl.FoFacet}, {impl.FoHoar, 72, 0, 1999, impl.FoFacet}, {impl.FoFacet, 72, 0, 2000, impl.FoHoar},
		{impl.FoRound, 24, 0, 1000, impl.FoFacet}, {impl.FoRound, 24, 0, 999, impl.FoRound}, {impl.FoRound, 23, 0, 2000, impl.FoRound}, {impl.FoHoar, 24, 0, 1000, impl.FoFacet}, {impl.FoHoar, 10000, 0, 999, impl.FoHoar}, {impl.FoFacet, 10000, 0, 0, impl.FoFacet},
		{impl.FoNew, 48, 0, 999, impl.FoBroken}, {impl.FoNew, 47, 0, 999, impl.FoNew}, {impl.FoNew, 48, 0, 1000, impl.FoFacet}, {impl.FoNew, 120, 0, 0, impl.FoBroken}, {impl.FoNew, 10000, 0, 0, impl.FoBroken}, {impl.FoNew, 72, 0, 2000, impl.FoHoar},
		{impl.FoBroken, 120, 0, 999, impl.FoRound}, {impl.FoBroken, 119, 0, 999, impl.FoBroken}, {impl.FoBroken, 120, 0, 1000, impl.FoFacet}, {impl.FoBroken, 48, 0, 0, impl.FoBroken}, {impl.FoRound, 10000, 0, 0, impl.FoRound},
	} {
		checkMiddleForm(t, c.form, c.age, c.water, c.gradient, 0, c.want)
		checkMiddleForm(t, c.form, c.age, c.water, 0, c.gradient, c.want)
		checkMiddleForm(t, c.form, c.age, c.water, -c.gradient, c.gradient, c.want)
	}
}

// A single layer has no gradient, and one at an end only the one to its only neighbour.
func TestFormsAtTheEnds(t *testing.T) {
	for _, c := range [][2]string{
		{"-", "-"}, {"3,100,0,100,-4000,1,10000", "3,100,0,100,-4000,1,10000"}, {"1,100,0,100,-4000,1,48", "2,100,0,100,-4000,1,48"}, {"2,100,0,100,0,1,120", "3,100,0,100,0,1,120"},
		{"3,100,0,100,-1,1,72;3,100,0,100,0,1,72", "4,100,0,100,-1,1,72;4,100,0,100,0,1,72"},
		{"3,100,0,100,0,1,72;3,100,0,100,-2,1,24;3,100,0,100,-3,1,24;3,100,0,100,-3,1,99", "5,100,0,100,0,1,72;4,100,0,100,-2,1,24;4,100,0,100,-3,1,24;3,100,0,100,-3,1,99"},
		{"3,100,0,100,0,1,99;3,100,0,100,0,1,72;3,100,7,100,-2,1,72;3,100,0,100,0,1,24", "3,100,0,100,0,1,99;5,100,0,100,0,1,72;6,100,7,100,-2,1,72;4,100,0,100,0,1,24"},
	} {
		got, code := impl.ChangeForms(profileOf(t, c[0]))
		checkProfile(t, "ChangeForms", got, code, profileOf(t, c[1]), impl.OK)
	}
}
