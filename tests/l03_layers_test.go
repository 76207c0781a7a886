package tests

import (
	"math"
	"slices"
	"strconv"
	"strings"
	"testing"

	"loop.example/g01013/impl"
)

// numberField is a number of a struct, with the limits that its chapter gives.
type numberField[T any] struct {
	name            string
	of              func(*T) *int64
	least, greatest int64
}

func layerFields() []numberField[impl.Layer] {
	return []numberField[impl.Layer]{
		{"Form", func(x *impl.Layer) *int64 { return &x.Form }, 1, 6},
		{"Ice", func(x *impl.Layer) *int64 { return &x.Ice }, 1, 1000000},
		{"Water", func(x *impl.Layer) *int64 { return &x.Water }, 0, 1000000},
		{"Density", func(x *impl.Layer) *int64 { return &x.Density }, 30, 900},
		{"Degrees", func(x *impl.Layer) *int64 { return &x.Degrees }, -4000, 0},
		{"Hardness", func(x *impl.Layer) *int64 { return &x.Hardness }, 1, 6},
		{"Age", func(x *impl.Layer) *int64 { return &x.Age }, 0, 10000},
	}
}

func goodLayer() impl.Layer {
	return impl.Layer{Form: impl.FoRound, Ice: 40000, Water: 500, Density: 300, Degrees: -200, Hardness: 4, Age: 200}
}

func leastLayer() impl.Layer {
	return impl.Layer{Form: 1, Ice: 1, Water: 0, Density: 30, Degrees: -4000, Hardness: 1, Age: 0}
}

func greatestLayer() impl.Layer {
	return impl.Layer{Form: 6, Ice: 1000000, Water: 1000000, Density: 900, Degrees: 0, Hardness: 6, Age: 10000}
}

// thinLayer is less than half a millimetre thick.
func thinLayer() impl.Layer {
	return impl.Layer{Form: impl.FoHoar, Ice: 1, Water: 0, Density: 900, Degrees: -1, Hardness: 1, Age: 1}
}

// withField returns a struct in which one number is another one.
func withField[T any](x T, field numberField[T], n int64) T {
	*field.of(&x) = n
	return x
}

// badLayers holds layers in which one number is not as it must be.
func badLayers() []impl.Layer {
	list := []impl.Layer{{}}
	for _, field := range layerFields() {
		for _, n := range append(otherNumbers(), field.least-1, field.greatest+1) {
			list = append(list, withField(goodLayer(), field, n))
		}
	}
	return list
}

func layersOf(x impl.Layer, count int) []impl.Layer { return slices.Repeat([]impl.Layer{x}, count) }

// mixedProfile has layers of two forms, with and without water and thickness.
func mixedProfile() []impl.Layer {
	return []impl.Layer{
		{Form: 6, Ice: 90000, Water: 4000, Density: 450, Degrees: 0, Hardness: 5, Age: 900},
		{Form: 3, Ice: 40000, Water: 7, Density: 300, Degrees: -215, Hardness: 4, Age: 200},
		thinLayer(),
		{Form: 5, Ice: 5001, Water: 0, Density: 250, Degrees: -503, Hardness: 1, Age: 50},
		{Form: 1, Ice: 20000, Water: 33, Density: 101, Degrees: -800, Hardness: 2, Age: 10},
		{Form: 1, Ice: 14, Water: 5, Density: 30, Degrees: -1, Hardness: 1, Age: 12},
		{Form: 1, Ice: 7777, Water: 0, Density: 60, Degrees: -3999, Hardness: 3, Age: 0},
	}
}

// goodProfiles holds valid profiles, from no layers to as many as may be.
func goodProfiles() [][]impl.Layer {
	mixed := mixedProfile()
	return [][]impl.Layer{
		nil, {}, {goodLayer()}, {leastLayer()}, {greatestLayer()}, {thinLayer()}, mixed, mixed[:3], mixed[2:3], mixed[2:6],
		layersOf(greatestLayer(), impl.MaxLayers), layersOf(leastLayer(), impl.MaxLayers), layersOf(thinLayer(), impl.MaxLayers), layersOf(goodLayer(), impl.MaxLayers-1),
		slices.Concat(layersOf(thinLayer(), 3), layersOf(goodLayer(), 2), layersOf(thinLayer(), 4), mixed),
	}
}

// badProfiles holds profiles that have too many layers, or one that is not valid.
func badProfiles() [][]impl.Layer {
	list := [][]impl.Layer{layersOf(goodLayer(), impl.MaxLayers+1), layersOf(goodLayer(), 5000), layersOf(impl.Layer{}, impl.MaxLayers+1)}
	for _, x := range badLayers() {
		list = append(list, []impl.Layer{x}, []impl.Layer{x, goodLayer(), goodLayer()}, []impl.Layer{goodLayer(), x, goodLayer()}, []impl.Layer{goodLayer(), goodLayer(), x}, append(layersOf(goodLayer(), impl.MaxLayers-1), x))
	}
	return list
}

func TestConstantsOfProfiles(t *testing.T) {
	got := []int64{
		impl.FoNew, impl.FoBroken, impl.FoRound, impl.FoFacet, impl.FoHoar, impl.FoMelt, impl.MaxLayers,
		impl.MaxIce, impl.MinDensity, impl.MaxDensity, impl.MinDegrees, impl.MaxAge, impl.MaxHard,
	}
	if want := []int64{1, 2, 3, 4, 5, 6, 16, 1000000, 30, 900, -4000, 10000, 6}; !slices.Equal(got, want) {
		t.Errorf("got %v, want %v", got, want)
	}
}

func TestValidLayerLimits(t *testing.T) {
	for _, x := range []impl.Layer{goodLayer(), leastLayer(), greatestLayer(), thinLayer()} {
		if !impl.ValidLayer(x) {
			t.Errorf("ValidLayer(%v) = false", x)
		}
		for _, field := range layerFields() {
			for _, n := range append(otherNumbers(), field.least-1, field.least, field.least+1, field.greatest-1, field.greatest, field.greatest+1, 0, -1, 1) {
				want := n >= field.least && n <= field.greatest
				if got := impl.ValidLayer(withField(x, field, n)); got != want {
					t.Errorf("ValidLayer with %s %d = %v", field.name, n, got)
				}
			}
		}
	}
	if impl.ValidLayer(impl.Layer{}) {
		t.Error("ValidLayer of the zero Layer = true")
	}
}

func TestValidProfile(t *testing.T) {
	for _, list := range goodProfiles() {
		if !impl.ValidProfile(list) {
			t.Errorf("ValidProfile(%v) = false", list)
		}
	}
	for _, list := range badProfiles() {
		if impl.ValidProfile(list) {
			t.Errorf("ValidProfile of %d layers, the first one %v, = true", len(list), list[0])
		}
	}
}

func TestSameProfile(t *testing.T) {
	profiles := slices.Concat(goodProfiles()[2:], badProfiles(), [][]impl.Layer{nil})
	for i, a := range profiles {
		for k, b := range profiles {
			// Several lists hold equal layers, so that the list itself decides only where it is the same.
			want := i == k || slices.EqualFunc(a, b, equalLayers)
			if got := impl.SameProfile(a, slices.Clone(b)); got != want {
				t.Fatalf("SameProfile of the profiles %d and %d = %v", i, k, got)
			}
		}
	}
	if !impl.SameProfile(nil, []impl.Layer{}) || !impl.SameProfile([]impl.Layer{}, nil) || !impl.SameProfile(nil, nil) {
		t.Error("no layers differ from no layers")
	}
	if impl.SameProfile(nil, []impl.Layer{{}}) || impl.SameProfile([]impl.Layer{{}}, nil) {
		t.Error("no layers equal a zero Layer")
	}
}

// equalLayers compares the layers number by number.
func equalLayers(x, y impl.Layer) bool {
	for _, field := range layerFields() {
		if *field.of(&x) != *field.of(&y) {
			return false
		}
	}
	return true
}

func TestSameProfileSeesEachNumber(t *testing.T) {
	for place := range mixedProfile() {
		for _, field := range layerFields() {
			a, b := mixedProfile(), mixedProfile()
			*field.of(&b[place])++
			if impl.SameProfile(a, b) || impl.SameProfile(b, a) {
				t.Errorf("another %s of the layer %d is not seen", field.name, place)
			}
		}
	}
	mixed := mixedProfile()
	turned := mixedProfile()
	slices.Reverse(turned)
	if impl.SameProfile(mixed, turned) || impl.SameProfile(mixed, mixed[:6]) || impl.SameProfile(mixed[:6], mixed) {
		t.Error("SameProfile does not see the order or the number of layers")
	}
}

func TestFormName(t *testing.T) {
	for form, want := range map[int64]string{
		impl.FoNew: "new", impl.FoBroken: "broken", impl.FoRound: "round", impl.FoFacet: "facet", impl.FoHoar: "hoar", impl.FoMelt: "melt",
		0: "", -1: "", 7: "", 8: "", 257: "", 1<<32 + 1: "", math.MinInt64: "", math.MaxInt64: "",
	} {
		if got := impl.FormName(form); got != want {
			t.Errorf("FormName(%d) = %q, want %q", form, got, want)
		}
	}
}

// profileAsTold writes a profile, valid or not, number by number.
func profileAsTold(list []impl.Layer) string {
	texts := []string{}
	for _, x := range list {
		numbers := []string{}
		for _, field := range layerFields() {
			numbers = append(numbers, strconv.FormatInt(*field.of(&x), 10))
		}
		texts = append(texts, strings.Join(numbers, ","))
	}
	if len(texts) == 0 {
		return "-"
	}
	return strings.Join(texts, ";")
}

func TestProfileTextsAreReadBack(t *testing.T) {
	for _, list := range goodProfiles() {
		want := profileAsTold(list)
		if got := impl.ProfileText(list); got != want {
			t.Errorf("ProfileText(%v) = %q, want %q", list, got, want)
		}
		if got, ok := impl.ReadProfile(want); !ok || !slices.EqualFunc(got, list, equalLayers) {
			t.Errorf("ReadProfile(%q) = %v, %v", want, got, ok)
		}
	}
	for _, list := range badProfiles() {
		if got := impl.ProfileText(list); got != "" {
			t.Errorf("ProfileText of %d layers, the first one %v, = %q", len(list), list[0], got)
		}
		if got, ok := impl.ReadProfile(profileAsTold(list)); len(got) != 0 || ok {
			t.Errorf("ReadProfile(%.80q) = %v, %v", profileAsTold(list), got, ok)
		}
	}
}

func TestKnownProfileTexts(t *testing.T) {
	for text, list := range map[string][]impl.Layer{
		"-":                               nil,
		"3,40000,500,300,-200,4,200":      {goodLayer()},
		"1,2,3,40,-5,6,7;6,1,0,900,0,1,0": {{Form: 1, Ice: 2, Water: 3, Density: 40, Degrees: -5, Hardness: 6, Age: 7}, {Form: 6, Ice: 1, Water: 0, Density: 900, Degrees: 0, Hardness: 1, Age: 0}},
	} {
		if got := impl.ProfileText(list); got != text {
			t.Errorf("ProfileText(%v) = %q, want %q", list, got, text)
		}
		if got, ok := impl.ReadProfile(text); !ok || !slices.EqualFunc(got, list, equalLayers) {
			t.Errorf("ReadProfile(%q) = %v, %v", text, got, ok)
		}
	}
}

func TestReadProfileOfOtherTexts(t *testing.T) {
	const good = "3,40000,500,300,-200,4,200"
	for _, s := range []string{
		"", ";", ",", " ", "--", "-;", ";-", "-;-", "-,-", " -", "- ", "0", "-;" + good, good + ";-", good + ";", ";" + good, good + ";;" + good, good + "," + good, good + " " + good, good + "\n" + good,
		" " + good, good + " ", good + "; " + good, good + " ;" + good, good + "\n", good + "\x00",
		"3,40000,500,300,-200,4", "40000,500,300,-200,4,200", "3,40000,500,300,-200,4,200,0", "3,40000,500,300,-200,4,", ",40000,500,300,-200,4,200", "3,,500,300,-200,4,200",
		"03,40000,500,300,-200,4,200", "3,040000,500,300,-200,4,200", "3,40000,500,300,-200,4,0200", "+3,40000,500,300,-200,4,200", "3,40000,+500,300,-200,4,200", "3,40000,-0,300,-200,4,200", "3,40000,500,300,-0,4,200", "3,40000,00,300,-200,4,200", "3,40000,500,300,--200,4,200", "3,40000,500,300,-0200,4,200",
		"3, 40000,500,300,-200,4,200", "3;40000;500;300;-200;4;200", "3 40000 500 300 -200 4 200", "3.40000,500,300,-200,4,200", "round,40000,500,300,-200,4,200", "3,4e4,500,300,-200,4,200", "3,0x1,500,300,-200,4,200", "3,40_000,500,300,-200,4,200", "3,40000,500,300,\u2212200,4,200", "\x803,40000,500,300,-200,4,200",
		"18446744073709551619,40000,500,300,-200,4,200", "3,40000,500,300,-200,4,18446744073709551616", "3,40000,500,300,-200,4,1000000000001",
		strings.Repeat(good+";", impl.MaxLayers) + good, strings.Repeat(good+";", impl.MaxLayers), strings.Repeat(good+";", 5000) + good, strings.Repeat(";", 100000), strings.Repeat(",", 100000), strings.Repeat("1,", 100000) + "1", strings.Repeat("-;", 17) + "-",
	} {
		if list, ok := impl.ReadProfile(s); len(list) != 0 || ok {
			t.Errorf("ReadProfile(%.60q) = %v, %v", s, list, ok)
		}
	}
}

// isProfileText says by itself whether a text is that of a valid profile.
func isProfileText(s string) bool {
	if s == "-" {
		return true
	}
	texts := strings.Split(s, ";")
	for _, text := range texts {
		numbers := strings.Split(text, ",")
		if len(numbers) != 7 {
			return false
		}
		for i, field := range layerFields() {
			n, err := strconv.ParseInt(numbers[i], 10, 64)
			if err != nil || strconv.FormatInt(n, 10) != numbers[i] || n < field.least || n > field.greatest {
				return false
			}
		}
	}
	return len(texts) <= impl.MaxLayers
}

func TestReadProfileOfNearTexts(t *testing.T) {
	for _, s := range []string{"-", "1,1,0,30,0,1,0", "6,900,10,90,-4,6,9", "2,10,0,300,-1,2,3;4,999999,100000,99,-3999,1,1000"} {
		nearTexts(s, func(s string) {
			list, ok := impl.ReadProfile(s)
			if ok != isProfileText(s) || ok && profileAsTold(list) != s || !ok && len(list) != 0 {
				t.Errorf("ReadProfile(%q) = %v, %v", s, list, ok)
			}
		})
	}
}
