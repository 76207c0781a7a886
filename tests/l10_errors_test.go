package tests

import (
	"reflect"
	"slices"
	"testing"

	"loop.example/g01013/impl"
)

// standQuestion holds all that functions of chapter 10 take beside stands.
type standQuestion struct {
	snow, least, years, trees, money, budget int64
	costs                                    []int64
}

// standFunction answers a question about one stand or several; takes holds the names of the numbers that count for it.
type standFunction[T any] struct {
	name  string
	takes []string
	call  func(T, standQuestion) ([]any, int64)
}

func standQuestionFields() []numberField[standQuestion] {
	return []numberField[standQuestion]{
		{"snow", func(q *standQuestion) *int64 { return &q.snow }, 0, 2000},
		{"least", func(q *standQuestion) *int64 { return &q.least }, 0, 1000},
		{"years", func(q *standQuestion) *int64 { return &q.years }, 0, 200},
		{"trees", func(q *standQuestion) *int64 { return &q.trees }, 0, 2000},
		{"money", func(q *standQuestion) *int64 { return &q.money }, 0, 100000000},
		{"budget", func(q *standQuestion) *int64 { return &q.budget }, 1, 20000},
	}
}

// functionsOfOneStand holds the functions that take one stand.
func functionsOfOneStand() []standFunction[impl.Stand] {
	return []standFunction[impl.Stand]{
		{"ProtectionOf", []string{"snow"}, func(x impl.Stand, q standQuestion) ([]any, int64) {
			protection, code := impl.ProtectionOf(x, q.snow)
			return []any{protection}, code
		}},
		{"MostSnow", []string{"least"}, func(x impl.Stand, q standQuestion) ([]any, int64) {
			snow, code := impl.MostSnow(x, q.least)
			return []any{snow}, code
		}},
		{"GrowStand", []string{"years"}, func(x impl.Stand, q standQuestion) ([]any, int64) {
			old, code := impl.GrowStand(x, q.years)
			return []any{old}, code
		}},
		{"YearsUntil", []string{"snow", "least"}, func(x impl.Stand, q standQuestion) ([]any, int64) {
			years, code := impl.YearsUntil(x, q.snow, q.least)
			return []any{years}, code
		}},
		{"FellTrees", []string{"trees"}, func(x impl.Stand, q standQuestion) ([]any, int64) {
			left, code := impl.FellTrees(x, q.trees)
			return []any{left}, code
		}},
		{"MostFelled", []string{"snow", "least"}, func(x impl.Stand, q standQuestion) ([]any, int64) {
			trees, code := impl.MostFelled(x, q.snow, q.least)
			return []any{trees}, code
		}},
	}
}

// functionsOfStands holds the functions that take several stands.
func functionsOfStands() []standFunction[[]impl.Stand] {
	return []standFunction[[]impl.Stand]{
		{"ProtectedStands", []string{"snow", "least"}, func(list []impl.Stand, q standQuestion) ([]any, int64) {
			indices, code := impl.ProtectedStands(list, q.snow, q.least)
			return []any{indices}, code
		}},
		{"WeakestStand", []string{"snow"}, func(list []impl.Stand, q standQuestion) ([]any, int64) {
			i, least, code := impl.WeakestStand(list, q.snow)
			return []any{i, least}, code
		}},
		{"PlantBest", []string{"snow", "least", "money", "budget"}, func(list []impl.Stand, q standQuestion) ([]any, int64) {
			set, many, code := impl.PlantBest(list, q.costs, q.money, q.snow, q.least, q.budget)
			return []any{set, many}, code
		}},
	}
}

// answeredStands are stands for which each function has an answer to the question answeredStandQuestion, as each one
// of them has by itself.
func answeredStands() []impl.Stand {
	return named(standOf("fir", 400, 4100, 700, 30), goodStand(), standOf("fir", 2000, 5000, 1000, 21))
}

func answeredStandQuestion() standQuestion {
	return standQuestion{snow: 300, least: 590, years: 3, trees: 1, money: 100, budget: 100, costs: []int64{10, 20, 30}}
}

// checkNoStand checks that a question has no answer but a code.
func checkNoStand[T any](t *testing.T, f standFunction[T], x T, q standQuestion, wanted int64) {
	t.Helper()
	results, code := f.call(x, q)
	if code != wanted || slices.ContainsFunc(results, func(x any) bool { return !isNothing(x) }) {
		t.Errorf("%s of %.200v and %.200v = %v, %d, want %d", f.name, x, q, results, code, wanted)
	}
}

// checkAtLimits asks with each number that counts at its limits, near them, and beyond.
func checkAtLimits[T any](t *testing.T, functions []standFunction[T], x T) {
	t.Helper()
	for _, f := range functions {
		if results, code := f.call(x, answeredStandQuestion()); code != impl.OK {
			t.Errorf("%s of %v = %v, %d", f.name, x, results, code)
		}
		for _, field := range standQuestionFields() {
			for _, n := range []int64{field.least, field.least + 1, field.greatest - 1, field.greatest} {
				results, code := f.call(x, withField(answeredStandQuestion(), field, n))
				// Other errors come where the stands are as stated and do not do what is asked.
				if code == impl.ErrInvalid || code == impl.ErrRange {
					t.Errorf("%s of %v with the %s %d = %v, %d", f.name, x, field.name, n, results, code)
				}
			}
			for _, n := range append(otherNumbers(), field.least-1, field.greatest+1) {
				q := withField(answeredStandQuestion(), field, n)
				if slices.Contains(f.takes, field.name) {
					checkNoStand(t, f, x, q, impl.ErrRange)
					continue
				}
				want, _ := f.call(x, answeredStandQuestion())
				if got, code := f.call(x, q); !reflect.DeepEqual(got, want) || code != impl.OK {
					t.Errorf("%s of %v with the %s %d, which it does not take, = %v, %d, want %v", f.name, x, field.name, n, got, code, want)
				}
			}
		}
	}
}

func TestStandFunctionsAtTheirLimits(t *testing.T) {
	for _, x := range answeredStands() {
		checkAtLimits(t, functionsOfOneStand(), x)
	}
	checkAtLimits(t, functionsOfStands(), answeredStands())
}

// TestRangeOfStandsComesFirst has questions without an answer for other causes, too.
func TestRangeOfStandsComesFirst(t *testing.T) {
	for _, field := range standQuestionFields() {
		for _, n := range append(otherNumbers(), field.least-1, field.greatest+1) {
			for _, x := range []impl.Stand{leastStand(), greatestStand(), goodStand()} {
				for _, f := range functionsOfOneStand() {
					if slices.Contains(f.takes, field.name) {
						checkNoStand(t, f, x, withField(standQuestion{snow: 2000, least: 1000, years: 200, trees: 2000}, field, n), impl.ErrRange)
					}
				}
			}
			for _, f := range functionsOfStands() {
				if slices.Contains(f.takes, field.name) {
					// There are no stands to be weak, and the budget of 1 node is too little for several.
					checkNoStand(t, f, nil, withField(standQuestion{snow: 2000, least: 1000, money: 100, budget: 1}, field, n), impl.ErrRange)
					checkNoStand(t, f, answeredStands(), withField(standQuestion{snow: 2000, least: 1000, money: 100, budget: 1, costs: []int64{1, 2, 3}}, field, n), impl.ErrRange)
				}
			}
		}
	}
}

func TestStandsWithoutAnAnswer(t *testing.T) {
	for _, list := range [][]impl.Stand{nil, {}} {
		for _, f := range functionsOfStands() {
			wanted := int64(impl.OK)
			if f.name == "WeakestStand" {
				wanted = impl.ErrNotFound
			}
			checkNoStand(t, f, list, standQuestion{snow: 5, least: 0, budget: 1}, wanted)
		}
	}
	for _, f := range functionsOfOneStand() {
		q, wanted := standQuestion{snow: 1, least: 1, trees: 1}, int64(impl.ErrNotFound)
		switch f.name {
		case "ProtectionOf":
			// To protect from nothing is an answer.
			wanted = impl.OK
		case "GrowStand":
			continue
		case "FellTrees":
			wanted = impl.ErrState
		}
		checkNoStand(t, f, leastStand(), q, wanted)
	}
}

// TestFunctionsOfBadStands has good and wrong numbers: what is not valid comes first.
func TestFunctionsOfBadStands(t *testing.T) {
	wrong := standQuestion{snow: -1, least: -1, years: -1, trees: -1, money: -1, budget: -1, costs: []int64{-1}}
	beyond := standQuestion{snow: 2001, least: 1001, years: 201, trees: 2001, money: 100000001, budget: 20001}
	for _, x := range badStands() {
		for _, f := range functionsOfOneStand() {
			for _, q := range []standQuestion{answeredStandQuestion(), {}, wrong, beyond, {trees: 2000}} {
				checkNoStand(t, f, x, q, impl.ErrInvalid)
			}
		}
	}
	for _, list := range badForests() {
		for _, f := range functionsOfStands() {
			fitting := answeredStandQuestion()
			fitting.costs = repeated(1, len(list))
			for _, q := range []standQuestion{answeredStandQuestion(), fitting, {}, wrong, beyond} {
				checkNoStand(t, f, list, q, impl.ErrInvalid)
			}
		}
	}
}

func TestCostsOfPlanting(t *testing.T) {
	plant := functionsOfStands()[2]
	for count := range 20 {
		q := answeredStandQuestion()
		q.costs = repeated(5, count)
		for _, list := range [][]impl.Stand{nil, answeredStands()[:1], answeredStands()[:2], answeredStands(), equalStands(goodStand(), impl.MaxStands)} {
			q.money, q.budget = 0, 16
			if count != len(list) {
				checkNoStand(t, plant, list, q, impl.ErrRange)
			} else if results, code := plant.call(list, q); code != impl.OK {
				t.Errorf("PlantBest of %v and %v = %v, %d", list, q, results, code)
			}
		}
	}
	for place := range 3 {
		for _, cost := range append(otherNumbers(), -1, 1000001) {
			for _, money := range []int64{0, 100, 100000000} {
				q := answeredStandQuestion()
				q.money, q.costs[place] = money, cost
				checkNoStand(t, plant, answeredStands(), q, impl.ErrRange)
				q.budget = 1
				checkNoStand(t, plant, answeredStands(), q, impl.ErrRange)
			}
		}
		for _, cost := range []int64{0, 1, 999999, 1000000} {
			q := answeredStandQuestion()
			q.costs[place] = cost
			if results, code := plant.call(answeredStands(), q); code != impl.OK {
				t.Errorf("PlantBest with the costs %v = %v, %d", q.costs, results, code)
			}
		}
	}
	checkNoStand(t, plant, answeredStands(), standQuestion{snow: 300, least: 590, budget: 100, costs: repeated(1, 100000)}, impl.ErrRange)
}
