package tests

import (
	"testing"

	"loop.example/g01013/impl"
)

// checkCoded compares a number and a code with those wanted.
func checkCoded(t *testing.T, what string, got, code, want, wanted int64) {
	t.Helper()
	if got != want || code != wanted {
		t.Errorf("%s = %d, %d, want %d, %d", what, got, code, want, wanted)
	}
}

func thicknessAsTold(x impl.Layer) int64 { return roundedQuotient(x.Ice, x.Density).Int64() }

func TestThicknessOf(t *testing.T) {
	for _, c := range [][3]int64{
		{10000, 100, 100}, {1, 900, 0}, {449, 900, 0}, {450, 900, 1}, {1349, 900, 1}, {1350, 900, 2}, {14, 30, 0}, {15, 30, 1}, {1, 30, 0}, {44, 30, 1}, {45, 30, 2},
		{1000000, 30, 33333}, {1000000, 900, 1111}, {1000000, 899, 1112}, {40000, 300, 133},
	} {
		x := goodLayer()
		x.Ice, x.Density = c[0], c[1]
		for _, x.Water = range []int64{0, 1000000} {
			got, code := impl.ThicknessOf(x)
			checkCoded(t, "ThicknessOf", got, code, c[2], impl.OK)
		}
	}
	for _, x := range badLayers() {
		got, code := impl.ThicknessOf(x)
		checkCoded(t, "ThicknessOf of a bad layer", got, code, 0, impl.ErrInvalid)
	}
}

func TestSumsOfProfiles(t *testing.T) {
	for _, list := range goodProfiles() {
		height, ice, water, cold := int64(0), int64(0), int64(0), int64(0)
		for _, x := range list {
			height += thicknessAsTold(x)
			ice += x.Ice
			water += x.Water
			heat := x.Ice * 21 * -x.Degrees
			cold += heat / 1000
			if heat%1000 > 0 {
				cold++
			}
		}
		got, code := impl.HeightOf(list)
		checkCoded(t, "HeightOf", got, code, height, impl.OK)
		got, code = impl.ColdOf(list)
		checkCoded(t, "ColdOf", got, code, cold, impl.OK)
		got, also, code := impl.MassOf(list)
		checkCoded(t, "ice of MassOf", got, code, ice, impl.OK)
		checkCoded(t, "water of MassOf", also, code, water, impl.OK)
	}
}

func TestSumsOfBadProfiles(t *testing.T) {
	for _, list := range badProfiles() {
		got, code := impl.HeightOf(list)
		checkCoded(t, "HeightOf", got, code, 0, impl.ErrInvalid)
		got, code = impl.ColdOf(list)
		checkCoded(t, "ColdOf", got, code, 0, impl.ErrInvalid)
		got, also, code := impl.MassOf(list)
		checkCoded(t, "ice of MassOf", got, code, 0, impl.ErrInvalid)
		checkCoded(t, "water of MassOf", also, code, 0, impl.ErrInvalid)
	}
}

func TestKnownSums(t *testing.T) {
	height, code := impl.HeightOf(mixedProfile())
	checkCoded(t, "HeightOf", height, code, 200+133+0+20+198+0+130, impl.OK)
	// Seven times less than half a millimetre is nothing, though all together would be more than three.
	height, code = impl.HeightOf(layersOf(impl.Layer{Form: 1, Ice: 14, Density: 30, Hardness: 1}, 7))
	checkCoded(t, "HeightOf", height, code, 0, impl.OK)
	height, code = impl.HeightOf(layersOf(impl.Layer{Form: 1, Ice: 1000000, Density: 30, Hardness: 1}, 16))
	checkCoded(t, "HeightOf", height, code, 533328, impl.OK)
	ice, water, code := impl.MassOf(layersOf(greatestLayer(), 16))
	checkCoded(t, "ice of MassOf", ice, code, 16000000, impl.OK)
	checkCoded(t, "water of MassOf", water, code, 16000000, impl.OK)
}

func TestKnownCold(t *testing.T) {
	for _, c := range []struct {
		ice, degrees int64
		count        int
		want         int64
	}{
		{1, 0, 1, 0}, {1, -1, 1, 1}, {1, -1, 2, 2}, {1, -1, 16, 16}, {47, -1, 1, 1}, {48, -1, 1, 2}, {381, -1, 1, 9}, {381, -1, 2, 18}, {1000, -1, 1, 21}, {1000, -1, 3, 63}, {1001, -1, 1, 22}, {1001, -1, 3, 66}, {999, -1, 1, 21},
		{1, -4000, 1, 84}, {1000000, -4000, 1, 84000000}, {1000000, -4000, 16, 1344000000}, {1000000, 0, 16, 0},
	} {
		x := goodLayer()
		x.Ice, x.Degrees = c.ice, c.degrees
		got, code := impl.ColdOf(layersOf(x, c.count))
		checkCoded(t, "ColdOf", got, code, c.want, impl.OK)
	}
	got, code := impl.ColdOf(nil)
	checkCoded(t, "ColdOf of no layers", got, code, 0, impl.OK)
}

// layersByHeight holds the layer of each whole millimetre from the ground up.
func layersByHeight(list []impl.Layer) []int64 {
	layers := []int64{}
	for k, x := range list {
		for range thicknessAsTold(x) {
			layers = append(layers, int64(k))
		}
	}
	return layers
}

func TestLayerAtEachHeight(t *testing.T) {
	for _, list := range goodProfiles() {
		layers := layersByHeight(list)
		for height, want := range layers {
			got, code := impl.LayerAt(list, int64(height))
			if got != want || code != impl.OK {
				t.Fatalf("LayerAt(%d) = %d, %d, want %d", height, got, code, want)
			}
		}
		above := int64(len(layers))
		for _, height := range append(otherNumbers(), above, above+1, -1) {
			got, code := impl.LayerAt(list, height)
			checkCoded(t, "LayerAt outside", got, code, 0, impl.ErrRange)
		}
	}
}

func TestLayerAtLayersWithoutThickness(t *testing.T) {
	thin, thick := thinLayer(), impl.Layer{Form: 1, Ice: 60, Density: 30, Hardness: 1}
	list := []impl.Layer{thin, thin, thick, thin, thick, thin}
	for height, want := range []int64{2, 2, 4, 4} {
		got, code := impl.LayerAt(list, int64(height))
		checkCoded(t, "LayerAt", got, code, want, impl.OK)
	}
	got, code := impl.LayerAt(list, 4)
	checkCoded(t, "LayerAt the height", got, code, 0, impl.ErrRange)
	for _, list := range [][]impl.Layer{nil, {thin}, {thin, thin}} {
		got, code := impl.LayerAt(list, 0)
		checkCoded(t, "LayerAt of nothing", got, code, 0, impl.ErrRange)
	}
}

func TestLoadAbove(t *testing.T) {
	for _, list := range goodProfiles() {
		for k := range list {
			want := int64(0)
			for _, x := range list[k+1:] {
				want += x.Ice + x.Water
			}
			got, code := impl.LoadAbove(list, int64(k))
			checkCoded(t, "LoadAbove", got, code, want, impl.OK)
		}
		for _, k := range append(otherNumbers(), -1, int64(len(list)), int64(len(list))+1) {
			got, code := impl.LoadAbove(list, k)
			checkCoded(t, "LoadAbove outside", got, code, 0, impl.ErrRange)
		}
	}
	got, code := impl.LoadAbove(layersOf(greatestLayer(), 16), 0)
	checkCoded(t, "LoadAbove", got, code, 30000000, impl.OK)
}

func TestInvalidComesBeforeRange(t *testing.T) {
	for _, list := range badProfiles() {
		for _, n := range append(otherNumbers(), -1, 0, 1, int64(len(list))) {
			got, code := impl.LayerAt(list, n)
			checkCoded(t, "LayerAt", got, code, 0, impl.ErrInvalid)
			got, code = impl.LoadAbove(list, n)
			checkCoded(t, "LoadAbove", got, code, 0, impl.ErrInvalid)
		}
	}
}
