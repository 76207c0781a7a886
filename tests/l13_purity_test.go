package tests

import (
	"reflect"
	"runtime"
	"slices"
	"sync"
	"testing"
	"time"

	"loop.example/g01013/impl"
)

// Each function has exactly the type that chapter 13 gives.
var (
	_ func(impl.Grid, []int64) (int64, int64)                   = impl.TotalMass
	_ func(impl.Grid, []int64, int64) ([]int64, []int64, int64) = impl.RouteStep
	_ func(impl.Grid, []int64, int64) ([]int64, int64, int64)   = impl.RunMass
	_ func(impl.Grid, []int64, int64) ([]int64, int64)          = impl.ReachedBy
	_ func(impl.Grid, []int64, int64, int64) (int64, int64)     = impl.ArrivalOf
	_ func(impl.Grid, []int64, int64) (int64, int64)            = impl.LowestOf
	_ func(impl.Grid, []int64, int64) (int64, int64)            = impl.DropOf
	_ func(impl.Grid, []int64, int64) (int64, int64)            = impl.FrictionFor
)

// routeResults holds the results of all functions of chapter 13.
func routeResults(g impl.Grid, q routeQuestion) []any {
	results := []any{}
	for _, f := range routeFunctions() {
		answers, code := f.call(g, q)
		results = append(results, answers, code)
	}
	return results
}

// copyOfRoute returns a question with masses of its own.
func copyOfRoute(q routeQuestion) routeQuestion {
	q.masses = slices.Clone(q.masses)
	return q
}

// checkEqualRoutes checks that equal arguments give equal results.
func checkEqualRoutes(t *testing.T, g impl.Grid, q routeQuestion) {
	t.Helper()
	first, second := routeResults(g, q), routeResults(copyOfGrid(g), copyOfRoute(q))
	if !reflect.DeepEqual(first, second) {
		t.Errorf("%.200v and %.200v: %v, then %v", g, q, first, second)
	}
}

func TestRoutesStayAsTheyWere(t *testing.T) {
	for _, g := range append(goodGrids(), badGrids()...) {
		for _, masses := range append(badMassesOf(answeredGrid()), repeated(1, len(g.Heights)), repeated(impl.MaxMass, len(g.Heights)), repeated(0, len(g.Heights))) {
			for _, friction := range []int64{0, 1, 300} {
				var wholes [2][]int64
				grid, q := g, routeQuestion{friction: friction, cell: 1}
				grid.Heights, wholes[0] = withSpare(g.Heights)
				q.masses, wholes[1] = withSpare(masses)
				before := [2][]int64{slices.Clone(wholes[0]), slices.Clone(wholes[1])}
				routeResults(grid, q)
				if !slices.EqualFunc(wholes[:], before[:], slices.Equal) {
					t.Errorf("%.80v or %.80v was changed", g, masses)
				}
			}
		}
	}
}

func TestRoutesReturnForOddNumbers(t *testing.T) {
	for _, g := range []impl.Grid{{}, gridOf(-1, -1, -1), answeredGrid(), flatGrid(1, 1, 5), flatGrid(8, 8, 5)} {
		for _, a := range oddNumbers() {
			for _, b := range oddNumbers() {
				for _, masses := range [][]int64{nil, {a}, {a, b}, {a, 1, b, 0, 0, 2}, repeated(a, 64), repeated(1, 64)} {
					checkEqualRoutes(t, g, routeQuestion{friction: a, cell: b, masses: masses})
				}
			}
		}
	}
}

func TestRoutesReturnForOddLists(t *testing.T) {
	for _, heights := range oddLists() {
		for _, masses := range oddLists() {
			q := routeQuestion{friction: 1, masses: masses}
			for _, g := range []impl.Grid{gridOf(1, int64(len(heights)), 10, heights...), gridOf(int64(len(heights)), 1, 10, heights...), gridOf(8, 8, 10, heights...), {Heights: heights}} {
				checkEqualRoutes(t, g, q)
			}
		}
	}
}

// listsOfRoute holds all lists that the functions of chapter 13 make.
func listsOfRoute(g impl.Grid, masses []int64, friction int64) [][]int64 {
	moved, stayed, _ := impl.RouteStep(g, masses, friction)
	settled, _, _ := impl.RunMass(g, masses, friction)
	reached, _ := impl.ReachedBy(g, masses, friction)
	return [][]int64{moved, stayed, settled, reached}
}

func TestListsOfRoutesAreNewMemory(t *testing.T) {
	for _, c := range routeCases(1) {
		for _, friction := range []int64{1, 5000} {
			var wholes [2][]int64
			grid := c.g
			grid.Heights, wholes[0] = withSpare(c.g.Heights)
			masses, whole := withSpare(c.masses)
			wholes[1] = whole
			before := [2][]int64{slices.Clone(wholes[0]), slices.Clone(wholes[1])}
			wanted := listsOfRoute(copyOfGrid(c.g), slices.Clone(c.masses), friction)
			first, second := listsOfRoute(grid, masses, friction), listsOfRoute(grid, masses, friction)
			for i, list := range first {
				others := slices.Concat(first[i+1:]...)
				overwrite(list, -99)
				if !slices.Equal(slices.Concat(first[i+1:]...), others) {
					t.Errorf("two lists of one answer about %v share memory", c)
				}
			}
			if !slices.EqualFunc(wholes[:], before[:], slices.Equal) {
				t.Errorf("a result shares memory with %v", c)
			}
			for _, whole := range wholes {
				overwrite(whole, -99)
			}
			if !slices.EqualFunc(second, wanted, slices.Equal) {
				t.Errorf("two results of %v share memory, or one does with it", c)
			}
		}
	}
}

// TestRoutesAreAlwaysEqual asks the same again and again, one after the other and at the same time.
func TestRoutesAreAlwaysEqual(t *testing.T) {
	for _, c := range append(smallRoutes(10), routeCases(1)[:40]...) {
		q := routeQuestion{friction: 50, cell: int64(len(c.masses)) - 1, masses: c.masses}
		want := routeResults(c.g, q)
		for range 20 {
			if got := routeResults(c.g, q); !reflect.DeepEqual(got, want) {
				t.Fatalf("%v: %v, then %v", c, want, got)
			}
		}
		var others sync.WaitGroup
		for range 8 {
			others.Go(func() {
				if got := routeResults(c.g, q); !reflect.DeepEqual(got, want) {
					t.Errorf("%v: %v, then %v", c, want, got)
				}
			})
		}
		others.Wait()
	}
}

// TestNothingRunsOnBehindRoutes counts what still runs after many calls.
func TestNothingRunsOnBehindRoutes(t *testing.T) {
	before := runtime.NumGoroutine()
	for _, c := range append(smallRoutes(20), routeCases(0)[:60]...) {
		for _, friction := range []int64{0, 1, 100, 5000} {
			for _, cell := range []int64{-1, 0, int64(len(c.masses)) - 1} {
				routeResults(c.g, routeQuestion{friction: friction, cell: cell, masses: c.masses})
			}
		}
	}
	// What has told its last answer may need a moment to end.
	for range 200 {
		if runtime.NumGoroutine() <= before {
			return
		}
		time.Sleep(10 * time.Millisecond)
	}
	t.Errorf("%d goroutines run, and %d did before", runtime.NumGoroutine(), before)
}
