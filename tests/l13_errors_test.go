package tests

import (
	"reflect"
	"slices"
	"testing"

	"loop.example/g01013/impl"
)

// routeQuestion holds all that functions of chapter 13 take beside a grid.
type routeQuestion struct {
	friction, cell int64
	masses         []int64
}

// routeFunction answers a question about a grid; takes holds the names of the numbers that count for it.
type routeFunction struct {
	name  string
	takes []string
	call  func(impl.Grid, routeQuestion) ([]any, int64)
}

func routeNumbers(g impl.Grid) []numberField[routeQuestion] {
	return []numberField[routeQuestion]{
		{"friction", func(q *routeQuestion) *int64 { return &q.friction }, 1, 5000},
		{"cell", func(q *routeQuestion) *int64 { return &q.cell }, 0, int64(len(g.Heights)) - 1},
	}
}

func routeFunctions() []routeFunction {
	return []routeFunction{
		{"TotalMass", nil, func(g impl.Grid, q routeQuestion) ([]any, int64) {
			sum, code := impl.TotalMass(g, q.masses)
			return []any{sum}, code
		}},
		{"RouteStep", []string{"friction"}, func(g impl.Grid, q routeQuestion) ([]any, int64) {
			moved, settled, code := impl.RouteStep(g, q.masses, q.friction)
			return []any{moved, settled}, code
		}},
		{"RunMass", []string{"friction"}, func(g impl.Grid, q routeQuestion) ([]any, int64) {
			settled, steps, code := impl.RunMass(g, q.masses, q.friction)
			return []any{settled, steps}, code
		}},
		{"ReachedBy", []string{"friction"}, func(g impl.Grid, q routeQuestion) ([]any, int64) {
			cells, code := impl.ReachedBy(g, q.masses, q.friction)
			return []any{cells}, code
		}},
		{"ArrivalOf", []string{"friction", "cell"}, func(g impl.Grid, q routeQuestion) ([]any, int64) {
			step, code := impl.ArrivalOf(g, q.masses, q.friction, q.cell)
			return []any{step}, code
		}},
		{"LowestOf", []string{"friction"}, func(g impl.Grid, q routeQuestion) ([]any, int64) {
			cell, code := impl.LowestOf(g, q.masses, q.friction)
			return []any{cell}, code
		}},
		{"DropOf", []string{"friction"}, func(g impl.Grid, q routeQuestion) ([]any, int64) {
			drop, code := impl.DropOf(g, q.masses, q.friction)
			return []any{drop}, code
		}},
		{"FrictionFor", []string{"cell"}, func(g impl.Grid, q routeQuestion) ([]any, int64) {
			friction, code := impl.FrictionFor(g, q.masses, q.cell)
			return []any{friction}, code
		}},
	}
}

// answeredRoute is a question to which each function has an answer for answeredGrid.
func answeredRoute() routeQuestion {
	return routeQuestion{friction: 100, cell: 5, masses: []int64{90, 0, 0, 20, 0, 0}}
}

// badMassesOf holds masses of a grid that are too many or too few, or one of which is not as it must be.
func badMassesOf(g impl.Grid) [][]int64 {
	count := len(g.Heights)
	lists := [][]int64{repeated(1, count-1), repeated(1, count+1), repeated(0, count-1), repeated(0, count+1), repeated(1000000, count+1), repeated(0, 2*count), repeated(0, 5000)}
	if count > 1 {
		lists = append(lists, nil, []int64{}, []int64{1})
	}
	for _, cell := range []int{0, count / 2, count - 1} {
		for _, mass := range append(otherNumbers(), -2, -1, impl.MaxMass+1, impl.MaxMass+2) {
			masses := repeated(1, count)
			masses[cell] = mass
			lists = append(lists, masses, slices.Concat(masses, []int64{1}))
		}
	}
	return lists
}

// checkNoRoute checks that a question has no answer but a code.
func checkNoRoute(t *testing.T, f routeFunction, g impl.Grid, q routeQuestion, wanted int64) {
	t.Helper()
	results, code := f.call(g, q)
	if code != wanted || slices.ContainsFunc(results, func(x any) bool { return !isNothing(x) }) {
		t.Errorf("%s of %.200v and %.200v = %v, %d, want %d", f.name, g, q, results, code, wanted)
	}
}

func TestRouteFunctionsAtTheirLimits(t *testing.T) {
	for _, f := range routeFunctions() {
		want, code := f.call(answeredGrid(), answeredRoute())
		if code != impl.OK || slices.ContainsFunc(want, isNothing) {
			t.Errorf("%s = %v, %d", f.name, want, code)
		}
		for _, field := range routeNumbers(answeredGrid()) {
			for _, n := range []int64{field.least, field.least + 1, field.greatest - 1, field.greatest} {
				results, code := f.call(answeredGrid(), withField(answeredRoute(), field, n))
				// A cell where a mass starts has no friction, and with much of it a cell is not reached.
				if code != impl.OK && code != impl.ErrState && code != impl.ErrNotFound {
					t.Errorf("%s with the %s %d = %v, %d", f.name, field.name, n, results, code)
				}
			}
			if slices.Contains(f.takes, field.name) {
				continue
			}
			for _, n := range append(otherNumbers(), field.least-1, field.greatest+1) {
				if got, code := f.call(answeredGrid(), withField(answeredRoute(), field, n)); !reflect.DeepEqual(got, want) || code != impl.OK {
					t.Errorf("%s with the %s %d, which it does not take, = %v, %d, want %v", f.name, field.name, n, got, code, want)
				}
			}
		}
	}
}

func TestMassesAtTheirLimits(t *testing.T) {
	for _, g := range []impl.Grid{answeredGrid(), flatGrid(1, 1, 5), flatGrid(1, 8, 5), flatGrid(8, 1, 5), flatGrid(8, 8, 5)} {
		for _, mass := range []int64{0, 1, impl.MaxMass - 1, impl.MaxMass} {
			for _, cell := range cellsOf(g) {
				for _, f := range routeFunctions() {
					results, code := f.call(g, routeQuestion{friction: 1, cell: cell, masses: oneMass(g, cell, mass)})
					wanted := int64(impl.OK)
					switch {
					case f.name == "FrictionFor" && mass > 0:
						wanted = impl.ErrState
					case slices.Contains([]string{"ArrivalOf", "LowestOf", "DropOf"}, f.name) && mass == 0:
						wanted = impl.ErrNotFound
					}
					if code != wanted {
						t.Errorf("%s of %d in the cell %d = %v, %d, want %d", f.name, mass, cell, results, code, wanted)
					}
				}
			}
		}
	}
}

// TestRangeOfRoutesComesBeforeOrder has numbers that are not as stated, with masses that are and others that are not.
func TestRangeOfRoutesComesBeforeOrder(t *testing.T) {
	for _, g := range []impl.Grid{answeredGrid(), flatGrid(1, 1, 5), flatGrid(8, 8, 5)} {
		for _, f := range routeFunctions() {
			for _, field := range routeNumbers(g) {
				if !slices.Contains(f.takes, field.name) {
					continue
				}
				for _, n := range append(otherNumbers(), -1, field.least-1, field.greatest+1) {
					for _, masses := range append(badMassesOf(g), repeated(0, len(g.Heights)), repeated(1, len(g.Heights))) {
						checkNoRoute(t, f, g, withField(routeQuestion{friction: 1, masses: masses}, field, n), impl.ErrRange)
						checkNoRoute(t, f, g, routeQuestion{friction: n, cell: n, masses: masses}, impl.ErrRange)
					}
				}
			}
		}
	}
}

// TestOrderOfRoutes has numbers that are as stated, at their limits, too, and masses that are not.
func TestOrderOfRoutes(t *testing.T) {
	for _, g := range []impl.Grid{answeredGrid(), flatGrid(1, 1, 5), flatGrid(1, 8, 5), flatGrid(8, 1, 5), flatGrid(7, 7, 5), flatGrid(8, 8, 5)} {
		for _, f := range routeFunctions() {
			for _, masses := range badMassesOf(g) {
				for _, friction := range []int64{1, 100, 5000} {
					// The mass of the cell is positive in some of these, so that a state would come later.
					for _, cell := range []int64{0, int64(len(g.Heights)) - 1} {
						checkNoRoute(t, f, g, routeQuestion{friction, cell, masses}, impl.ErrOrder)
					}
				}
			}
		}
	}
}

// TestRoutesOfBadGrids has good and wrong numbers and masses: what is not valid comes first.
func TestRoutesOfBadGrids(t *testing.T) {
	for _, g := range badGrids() {
		for _, f := range routeFunctions() {
			for _, q := range []routeQuestion{answeredRoute(), {}, {friction: 1, masses: repeated(1, len(g.Heights))}, {friction: 1, masses: repeated(0, len(g.Heights))}, {friction: 0, cell: -1, masses: []int64{-1}}, {friction: 5001, cell: 64, masses: repeated(impl.MaxMass+1, 64)}} {
				checkNoRoute(t, f, g, q, impl.ErrInvalid)
			}
		}
	}
}

func TestRoutesWithoutMasses(t *testing.T) {
	for _, g := range []impl.Grid{answeredGrid(), flatGrid(1, 1, 5), flatGrid(8, 8, 5)} {
		none := repeated(0, len(g.Heights))
		for _, friction := range []int64{1, 5000} {
			for _, f := range routeFunctions() {
				results, code := f.call(g, routeQuestion{friction: friction, masses: none})
				want, wanted := []any{int64(0)}, int64(impl.OK)
				switch f.name {
				case "RouteStep":
					want = []any{none, none}
				case "RunMass":
					want = []any{none, int64(0)}
				case "ReachedBy":
					want = []any{results[0]}
					if !isNothing(results[0]) {
						t.Errorf("%v are reached by nothing", results)
					}
				case "FrictionFor":
					want = []any{int64(1)}
				case "ArrivalOf", "LowestOf", "DropOf":
					wanted = impl.ErrNotFound
				}
				if !reflect.DeepEqual(results, want) || code != wanted {
					t.Errorf("%s without masses = %v, %d, want %v, %d", f.name, results, code, want, wanted)
				}
			}
		}
	}
}

// TestStateOfFrictionsComesBeforeNotFound has cells that are reached with every friction, with and without a mass of their own.
func TestStateOfFrictionsComesBeforeNotFound(t *testing.T) {
	g := gridOf(1, 2, 1, 5, 0)
	for mass, wanted := range []int64{impl.ErrNotFound, impl.ErrState} {
		got, code := impl.FrictionFor(g, []int64{1, int64(mass)}, 1)
		checkCoded(t, "FrictionFor", got, code, 0, wanted)
	}
}
