package tests

import (
	"math/big"
	"slices"
	"testing"

	"loop.example/g01013/impl"
)

// floorOf returns the greatest integer that is at most x.
func floorOf(x *big.Rat) int64 {
	// Div rounds down where its divisor is positive, as each denominator is.
	return new(big.Int).Div(x.Num(), x.Denom()).Int64()
}

// ceilingOf returns the least integer that is at least x.
func ceilingOf(x *big.Rat) int64 { return -floorOf(new(big.Rat).Neg(x)) }

// nearestOf returns the integer nearest to x, which is not negative; the greater one of two.
func nearestOf(x *big.Rat) int64 { return floorOf(new(big.Rat).Add(x, big.NewRat(1, 2))) }

// quotientOf returns the product of factors, without a limit, divided by a divisor.
func quotientOf(divisor int64, factors ...int64) *big.Rat {
	x := big.NewRat(1, divisor)
	for _, n := range factors {
		x.Mul(x, new(big.Rat).SetInt64(n))
	}
	return x
}

func strengthAsTold(x impl.Layer) int64 {
	factors := map[int64]int64{impl.FoNew: 20, impl.FoBroken: 22, impl.FoRound: 30, impl.FoFacet: 12, impl.FoHoar: 8, impl.FoMelt: 35}
	return nearestOf(quotientOf(1000, x.Density, x.Density, factors[x.Form]))
}

// boundsAsTold returns the bounds of the strength of a layer.
func boundsAsTold(x impl.Layer, doubt int64) (int64, int64) {
	strength := strengthAsTold(x)
	return floorOf(quotientOf(1000, strength, 1000-doubt)), ceilingOf(quotientOf(1000, strength, 1000+doubt))
}

// layerWith returns a layer of a form and a density.
func layerWith(form, density int64) impl.Layer {
	x := goodLayer()
	x.Form, x.Density = form, density
	return x
}

// allForms holds all forms of snow.
func allForms() []int64 {
	return []int64{impl.FoNew, impl.FoBroken, impl.FoRound, impl.FoFacet, impl.FoHoar, impl.FoMelt}
}

// someDoubts holds doubts that round in different ways, 0 and the greatest one among them.
func someDoubts() []int64 { return []int64{0, 1, 7, 100, 200, 333, 500, 998, 999, 1000} }

func otherDoubts() []int64 { return append(otherNumbers(), -1, 1001) }

// checkBounds compares two bounds and a code with those wanted.
func checkBounds(t *testing.T, what string, least, greatest, code, wantLeast, wantGreatest, wanted int64) {
	t.Helper()
	if least != wantLeast || greatest != wantGreatest || code != wanted {
		t.Errorf("%s = %d, %d, %d, want %d, %d, %d", what, least, greatest, code, wantLeast, wantGreatest, wanted)
	}
}

func TestConstantsOfStability(t *testing.T) {
	if got := []int64{impl.MaxDoubt, impl.MaxIndex, impl.MaxRun}; !slices.Equal(got, []int64{1000, 1000000, 1000}) {
		t.Errorf("got %v", got)
	}
}

func TestStrengthOfEachForm(t *testing.T) {
	for form, strengths := range map[int64][4]int64{
		impl.FoNew: {18, 200, 1800, 16200}, impl.FoBroken: {20, 220, 1980, 17820}, impl.FoRound: {27, 300, 2700, 24300},
		impl.FoFacet: {11, 120, 1080, 9720}, impl.FoHoar: {7, 80, 720, 6480}, impl.FoMelt: {32, 350, 3150, 28350},
	} {
		for i, density := range []int64{30, 100, 300, 900} {
			least, greatest, code := impl.StrengthBounds(layerWith(form, density), 0)
			checkBounds(t, impl.FormName(form), least, greatest, code, strengths[i], strengths[i], impl.OK)
		}
	}
}

// TestStrengthAtAHalf has strengths that lie just between two integers, and beside them.
func TestStrengthAtAHalf(t *testing.T) {
	for _, c := range [][3]int64{
		{impl.FoNew, 35, 25}, {impl.FoNew, 45, 41}, {impl.FoNew, 34, 23}, {impl.FoNew, 36, 26}, {impl.FoNew, 55, 61}, {impl.FoNew, 895, 16021},
		{impl.FoFacet, 75, 68}, {impl.FoFacet, 74, 66}, {impl.FoFacet, 76, 69}, {impl.FoFacet, 125, 188}, {impl.FoFacet, 875, 9188},
		{impl.FoMelt, 30, 32}, {impl.FoMelt, 50, 88}, {impl.FoMelt, 49, 84}, {impl.FoMelt, 51, 91}, {impl.FoMelt, 70, 172}, {impl.FoMelt, 890, 27724},
	} {
		least, greatest, code := impl.StrengthBounds(layerWith(c[0], c[1]), 0)
		checkBounds(t, "StrengthBounds at a half", least, greatest, code, c[2], c[2], impl.OK)
	}
}

func TestKnownStrengthBounds(t *testing.T) {
	for _, c := range [][5]int64{
		{impl.FoNew, 100, 0, 200, 200}, {impl.FoNew, 100, 1, 199, 201}, {impl.FoNew, 100, 5, 199, 201}, {impl.FoNew, 100, 6, 198, 202}, {impl.FoNew, 100, 1000, 0, 400},
		// A strength of 25, whose bounds are integers for a doubt of 40.
		{impl.FoNew, 35, 1, 24, 26}, {impl.FoNew, 35, 39, 24, 26}, {impl.FoNew, 35, 40, 24, 26}, {impl.FoNew, 35, 41, 23, 27}, {impl.FoNew, 35, 960, 1, 49}, {impl.FoNew, 35, 961, 0, 50}, {impl.FoNew, 35, 999, 0, 50}, {impl.FoNew, 35, 1000, 0, 50},
		{impl.FoRound, 300, 200, 2160, 3240}, {impl.FoHoar, 30, 0, 7, 7}, {impl.FoHoar, 30, 1, 6, 8}, {impl.FoHoar, 30, 857, 1, 13}, {impl.FoHoar, 30, 858, 0, 14}, {impl.FoHoar, 30, 1000, 0, 14},
		{impl.FoMelt, 900, 0, 28350, 28350}, {impl.FoMelt, 900, 1, 28321, 28379}, {impl.FoMelt, 900, 999, 28, 56672}, {impl.FoMelt, 900, 1000, 0, 56700},
	} {
		least, greatest, code := impl.StrengthBounds(layerWith(c[0], c[1]), c[2])
		checkBounds(t, "StrengthBounds", least, greatest, code, c[3], c[4], impl.OK)
	}
}

func TestStrengthBoundsOfAllLayers(t *testing.T) {
	for _, form := range allForms() {
		for density := int64(30); density <= 900; density++ {
			for _, doubt := range someDoubts() {
				x := layerWith(form, density)
				least, greatest, code := impl.StrengthBounds(x, doubt)
				wantLeast, wantGreatest := boundsAsTold(x, doubt)
				checkBounds(t, "StrengthBounds", least, greatest, code, wantLeast, wantGreatest, impl.OK)
			}
		}
	}
}

// TestStrengthIsOfFormAndDensity changes all that a strength does not depend on.
func TestStrengthIsOfFormAndDensity(t *testing.T) {
	for _, x := range slices.Concat(mixedProfile(), []impl.Layer{leastLayer(), greatestLayer(), thinLayer()}) {
		wantLeast, wantGreatest := boundsAsTold(x, 150)
		for _, field := range layerFields() {
			if field.name == "Form" || field.name == "Density" {
				continue
			}
			for _, n := range []int64{field.least, field.greatest} {
				least, greatest, code := impl.StrengthBounds(withField(x, field, n), 150)
				checkBounds(t, "StrengthBounds with another "+field.name, least, greatest, code, wantLeast, wantGreatest, impl.OK)
			}
		}
	}
}

func TestStrengthBoundsWidenWithDoubt(t *testing.T) {
	for _, form := range allForms() {
		for _, density := range []int64{30, 35, 101, 333, 899, 900} {
			x := layerWith(form, density)
			least, greatest, _ := impl.StrengthBounds(x, 0)
			if strength := strengthAsTold(x); least != strength || greatest != strength {
				t.Errorf("without doubt, the strength %d has the bounds %d and %d", strength, least, greatest)
			}
			for doubt := int64(1); doubt <= impl.MaxDoubt; doubt++ {
				lesser, greater, code := impl.StrengthBounds(x, doubt)
				wantLeast, wantGreatest := boundsAsTold(x, doubt)
				checkBounds(t, "StrengthBounds", lesser, greater, code, wantLeast, wantGreatest, impl.OK)
				if lesser > least || greater < greatest || lesser > greater || lesser < 0 {
					t.Errorf("a doubt of %d makes bounds of %d and %d from %d and %d", doubt, lesser, greater, least, greatest)
				}
				least, greatest = lesser, greater
			}
		}
	}
}

func TestStrengthBoundsErrors(t *testing.T) {
	for _, doubt := range otherDoubts() {
		for _, x := range []impl.Layer{goodLayer(), leastLayer(), greatestLayer()} {
			least, greatest, code := impl.StrengthBounds(x, doubt)
			checkBounds(t, "StrengthBounds with no doubt", least, greatest, code, 0, 0, impl.ErrRange)
		}
	}
	for _, x := range badLayers() {
		for _, doubt := range append(otherDoubts(), 0, 500, 1000) {
			least, greatest, code := impl.StrengthBounds(x, doubt)
			checkBounds(t, "StrengthBounds of a bad layer", least, greatest, code, 0, 0, impl.ErrInvalid)
		}
	}
}
