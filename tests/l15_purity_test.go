package tests

import (
	"reflect"
	"runtime"
	"slices"
	"strings"
	"sync"
	"testing"
	"time"

	"loop.example/g01013/impl"
)

// Each function has exactly the type that chapter 15 gives.
var (
	_ func(impl.Grid, []impl.Asset) bool                                         = impl.ValidAssets
	_ func(impl.Grid, []impl.Asset, []int64) ([]int64, int64)                    = impl.ExposedAssets
	_ func(impl.Grid, []impl.Asset, []int64) (int64, int64)                      = impl.ExposedWorth
	_ func(impl.Grid, []impl.Asset, []int64) ([]int64, int64)                    = impl.BuriedBy
	_ func(impl.Grid, []impl.Asset, []int64, int64) (int64, int64, int64)        = impl.FirstHit
	_ func(impl.Grid, int64, int64) (impl.Grid, int64)                           = impl.RaiseCell
	_ func(impl.Grid, []impl.Asset, []int64, int64, int64) (int64, int64, int64) = impl.BestDam
	_ func(impl.Grid, []int64) ([]int64, int64)                                  = impl.SafeCells
	_ func(impl.Asset) string                                                    = impl.AssetText
	_ func(string) (impl.Asset, bool)                                            = impl.ReadAsset
	_                                                                            = struct {
		Id    string
		Cells []int64
		Worth int64
	}(impl.Asset{})
)

// exposureResults holds the results of all functions of chapter 15 that take a grid or an asset.
func exposureResults(g impl.Grid, q exposureQuestion) []any {
	results := []any{impl.ValidAssets(g, q.assets)}
	for _, x := range q.assets[:min(len(q.assets), impl.MaxAssets+1)] {
		results = append(results, impl.AssetText(x))
	}
	for _, f := range exposureFunctions() {
		answers, code := f.call(g, q)
		results = append(results, answers, code)
	}
	return results
}

// copyOfAssets returns assets with cells of their own.
func copyOfAssets(list []impl.Asset) []impl.Asset {
	list = slices.Clone(list)
	for i := range list {
		list[i].Cells = slices.Clone(list[i].Cells)
	}
	return list
}

// copyOfExposure returns a question with lists of its own.
func copyOfExposure(q exposureQuestion) exposureQuestion {
	q.assets = copyOfAssets(q.assets)
	q.reached, q.settled, q.masses = slices.Clone(q.reached), slices.Clone(q.settled), slices.Clone(q.masses)
	return q
}

// checkEqualExposures checks that equal arguments give equal results.
func checkEqualExposures(t *testing.T, g impl.Grid, q exposureQuestion) {
	t.Helper()
	first, second := exposureResults(g, q), exposureResults(copyOfGrid(g), copyOfExposure(q))
	if !reflect.DeepEqual(first, second) {
		t.Errorf("%.200v and %.200v: %v, then %v", g, q, first, second)
	}
}

// spareExposure returns a grid and a question whose lists all have something in their unused capacity, all lists of numbers
// with it, and all assets with theirs.
func spareExposure(g impl.Grid, q exposureQuestion) (impl.Grid, exposureQuestion, [][]int64, []impl.Asset) {
	wholes := [][]int64{}
	spare := func(list []int64) []int64 {
		part, whole := withSpare(list)
		wholes = append(wholes, whole)
		return part
	}
	g.Heights = spare(g.Heights)
	q.reached, q.settled, q.masses = spare(q.reached), spare(q.settled), spare(q.masses)
	count := len(q.assets)
	all := append(slices.Clone(q.assets), assetOf("spare", 41, 42, 43), assetOf("spare", 44, 45))
	for i := range all {
		all[i].Cells = spare(all[i].Cells)
	}
	q.assets = all[:count]
	return g, q, wholes, all
}

// copyOfLists returns lists with memory of their own.
func copyOfLists(lists [][]int64) [][]int64 {
	lists = slices.Clone(lists)
	for i := range lists {
		lists[i] = slices.Clone(lists[i])
	}
	return lists
}

func TestExposuresStayAsTheyWere(t *testing.T) {
	for _, g := range append(exposedGrids(), append(badGrids()[:20], mixedGrids(1)...)...) {
		questions := []exposureQuestion{answeredExposure(), {}, oneExposure(g)}
		for i, list := range append(goodAssetsOf(answeredGrid()), badAssetListsOf(answeredGrid())[:40]...) {
			q := oneExposure(g)
			q.assets, q.friction, q.by = list, []int64{0, 1, 300}[i%3], []int64{0, 7, 101}[i/3%3]
			q.reached, q.masses, q.settled = cellsOf(g), repeated(int64(i%2), len(g.Heights)), repeated(int64(i%5)-1, len(g.Heights))
			questions = append(questions, q)
		}
		for _, question := range questions {
			grid, q, wholes, assets := spareExposure(g, question)
			lists, list := copyOfLists(wholes), copyOfAssets(assets)
			exposureResults(grid, q)
			if !slices.EqualFunc(wholes, lists, slices.Equal) || !slices.EqualFunc(assets, list, assetsEqual) {
				t.Errorf("%.80v or %.200v was changed", g, question)
			}
		}
	}
}

func TestExposuresReturnForOddNumbers(t *testing.T) {
	for _, g := range []impl.Grid{{}, gridOf(-1, -1, -1), answeredGrid(), flatGrid(1, 1, 5), flatGrid(8, 8, 5)} {
		for _, a := range oddNumbers() {
			for _, b := range oddNumbers() {
				for _, list := range [][]int64{nil, {a}, {a, b}, repeated(a, len(g.Heights)), repeated(1, 64)} {
					q := exposureQuestion{assets: []impl.Asset{assetOf("a", b, list...), assetOf("b", a, 0)}, reached: list, settled: list, masses: list, friction: a, cell: b, by: a}
					checkEqualExposures(t, g, q)
					q.assets, q.friction, q.cell, q.by = []impl.Asset{assetOf("a", 5, 0), assetOf("b", 1, 0)}, 1, a, b
					checkEqualExposures(t, g, q)
				}
			}
		}
	}
}

func TestExposuresReturnForOddLists(t *testing.T) {
	for _, heights := range oddLists() {
		for _, list := range append(oddLists(), []int64{0, 1, 2}, []int64{0}) {
			count := int64(len(heights))
			for _, g := range []impl.Grid{gridOf(1, count, 10, heights...), gridOf(count, 1, 10, heights...), gridOf(8, 8, 10, heights...), {Heights: heights}, answeredGrid()} {
				checkEqualExposures(t, g, exposureQuestion{reached: list, settled: list, masses: list, friction: 1})
				checkEqualExposures(t, g, exposureQuestion{assets: []impl.Asset{assetOf("a", 5, list...)}, reached: list, settled: list, masses: list, friction: 1, by: 1})
			}
		}
	}
}

func TestOddAssetsReturn(t *testing.T) {
	for _, g := range []impl.Grid{{}, answeredGrid(), flatGrid(1, 1, 5), flatGrid(8, 8, 5)} {
		for _, id := range oddTexts() {
			q := oneExposure(g)
			q.assets = []impl.Asset{{Id: id, Cells: []int64{0}}}
			checkEqualExposures(t, g, q)
			q.assets = []impl.Asset{{Id: "a", Cells: []int64{0}}, {Id: id}}
			checkEqualExposures(t, g, q)
		}
		for _, list := range [][]impl.Asset{nil, {}, {{}}, {{}, {}}, {{Id: "a"}}, {{Id: "a", Cells: []int64{}}}, make([]impl.Asset, 12), make([]impl.Asset, 13), make([]impl.Asset, 100000), manyAssets(100, 5, 0)} {
			q := oneExposure(g)
			q.assets = list
			checkEqualExposures(t, g, q)
		}
	}
}

func TestReadAssetReturnsForOddTexts(t *testing.T) {
	for _, s := range append(oddTexts(), "road 100 3,4", "a 0 0", strings.Repeat("a 0 0 ", 10000), strings.Repeat("\xff ", 100000), "a 0 "+strings.Repeat("1,", 100000)) {
		first, isFirst := impl.ReadAsset(s)
		second, isSecond := impl.ReadAsset(strings.Clone(s))
		if !assetsEqual(first, second) || isFirst != isSecond {
			t.Errorf("ReadAsset(%.20q) = %v, %v, then %v, %v", s, first, isFirst, second, isSecond)
		}
	}
}

// listsOfExposure holds all lists that the functions of chapter 15 make from a question.
func listsOfExposure(g impl.Grid, q exposureQuestion) [][]int64 {
	exposed, _ := impl.ExposedAssets(g, q.assets, q.reached)
	buried, _ := impl.BuriedBy(g, q.assets, q.settled)
	raised, _ := impl.RaiseCell(g, q.cell, q.by)
	safe, _ := impl.SafeCells(g, q.reached)
	return [][]int64{exposed, buried, raised.Heights, safe}
}

func TestListsOfExposuresAreNewMemory(t *testing.T) {
	for _, c := range exposureCases(200) {
		reached, _ := impl.ReachedBy(c.g, c.masses, c.friction)
		for _, by := range []int64{0, 5} {
			question := exposureQuestion{assets: c.assets, reached: reached, settled: c.masses, masses: c.masses, friction: 1, by: by}
			wanted := listsOfExposure(copyOfGrid(c.g), copyOfExposure(question))
			g, q, wholes, assets := spareExposure(c.g, question)
			before, list := copyOfLists(wholes), copyOfAssets(assets)
			first, second := listsOfExposure(g, q), listsOfExposure(g, q)
			for i, numbers := range first {
				others := slices.Concat(first[i+1:]...)
				overwrite(numbers, -99)
				if !slices.Equal(slices.Concat(first[i+1:]...), others) {
					t.Errorf("two lists of one answer about %v share memory", c)
				}
			}
			if !slices.EqualFunc(wholes, before, slices.Equal) || !slices.EqualFunc(assets, list, assetsEqual) {
				t.Errorf("a result shares memory with %v", c)
			}
			for _, whole := range wholes {
				overwrite(whole, -99)
			}
			if !slices.EqualFunc(second, wanted, slices.Equal) {
				t.Errorf("two results of %v share memory, or one does with it", c)
			}
		}
	}
}

func TestReadAssetsAreNewMemory(t *testing.T) {
	for _, x := range slices.Concat(goodAssetsOf(answeredGrid())...) {
		text := assetAsTold(x)
		first, _ := impl.ReadAsset(text)
		second, _ := impl.ReadAsset(text)
		overwrite(first.Cells, -99)
		if !assetsEqual(second, x) {
			t.Errorf("two results of ReadAsset(%q) share memory", text)
		}
	}
}

// TestExposuresAreAlwaysEqual asks the same again and again, one after the other and at the same time.
func TestExposuresAreAlwaysEqual(t *testing.T) {
	cases := exposureCases(30)
	for i, c := range append(cases, largeExposures()[200:220]...) {
		reached, _ := impl.ReachedBy(c.g, c.masses, c.friction)
		q := exposureQuestion{assets: c.assets, reached: reached, settled: c.masses, masses: c.masses, friction: c.friction, by: c.by}
		want := exposureResults(c.g, q)
		for range 20 {
			other := cases[i%len(cases)]
			impl.BestDam(other.g, other.assets, other.masses, 1, 7)
			if got := exposureResults(c.g, q); !reflect.DeepEqual(got, want) {
				t.Fatalf("%v: %v, then %v", c, want, got)
			}
		}
		var others sync.WaitGroup
		for range 8 {
			others.Go(func() {
				if got := exposureResults(c.g, q); !reflect.DeepEqual(got, want) {
					t.Errorf("%v: %v, then %v", c, want, got)
				}
			})
		}
		others.Wait()
	}
}

// TestNothingRunsOnBehindExposures counts what still runs after many calls.
func TestNothingRunsOnBehindExposures(t *testing.T) {
	before := runtime.NumGoroutine()
	for _, c := range append(exposureCases(100), largeExposures()[:60]...) {
		for _, friction := range []int64{0, 1, 100, 5000} {
			impl.FirstHit(c.g, c.assets, c.masses, friction)
			impl.BestDam(c.g, c.assets, c.masses, friction, c.by)
			impl.BestDam(c.g, c.assets, c.masses, friction, 101)
		}
	}
	// What has told its last answer may need a moment to end.
	for range 200 {
		if runtime.NumGoroutine() <= before {
			return
		}
		time.Sleep(10 * time.Millisecond)
	}
	t.Errorf("%d goroutines run, and %d did before", runtime.NumGoroutine(), before)
}

// TestManyDamsReturnSoon has masses in all cells but the last one, and long ways down, in the largest grids.
func TestManyDamsReturnSoon(t *testing.T) {
	g := largestGrid()
	for cell := range g.Heights {
		g.Heights[cell] = int64(len(g.Heights)-cell) * 70
	}
	list := manyAssets(impl.MaxAssets, impl.MaxWorth, cellsOf(g)...)
	for _, count := range []int{1, 8, 32, 63} {
		masses := append(repeated(impl.MaxMass, count), repeated(0, 64-count)...)
		for _, friction := range []int64{1, 5000} {
			if _, worth, code := impl.BestDam(g, list, masses, friction, impl.MaxRaise); worth != 12000000 || code != impl.OK {
				t.Errorf("BestDam with %d masses = %d, %d", count, worth, code)
			}
		}
	}
}
