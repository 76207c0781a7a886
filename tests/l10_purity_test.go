package tests

import (
	"reflect"
	"slices"
	"strings"
	"testing"

	"loop.example/g01013/impl"
)

// Each function has exactly the type that chapter 10 gives.
var (
	_ func([]impl.Stand) bool                                                         = impl.ValidStands
	_ func(impl.Stand, int64) (int64, int64)                                          = impl.ProtectionOf
	_ func([]impl.Stand, int64, int64) ([]int64, int64)                               = impl.ProtectedStands
	_ func([]impl.Stand, int64) (int64, int64, int64)                                 = impl.WeakestStand
	_ func(impl.Stand, int64) (int64, int64)                                          = impl.MostSnow
	_ func(impl.Stand, int64) (impl.Stand, int64)                                     = impl.GrowStand
	_ func(impl.Stand, int64, int64) (int64, int64)                                   = impl.YearsUntil
	_ func(impl.Stand, int64) (impl.Stand, int64)                                     = impl.FellTrees
	_ func(impl.Stand, int64, int64) (int64, int64)                                   = impl.MostFelled
	_ func([]impl.Stand, []int64, int64, int64, int64, int64) ([]int64, int64, int64) = impl.PlantBest
	_ func(impl.Stand) string                                                         = impl.StandText
	_ func(string) (impl.Stand, bool)                                                 = impl.ReadStand
	_                                                                                 = struct {
		Id                        string
		Trees, Height, Cover, Gap int64
	}(impl.Stand{})
)

// standResults holds the results of all functions of chapter 10 that take stands.
func standResults(list []impl.Stand, q standQuestion) []any {
	results := []any{impl.ValidStands(list)}
	for _, f := range functionsOfStands() {
		answers, code := f.call(list, q)
		results = append(results, answers, code)
	}
	for _, x := range list[:min(len(list), impl.MaxStands)] {
		results = append(results, impl.StandText(x))
		for _, f := range functionsOfOneStand() {
			answers, code := f.call(x, q)
			results = append(results, answers, code)
		}
	}
	return results
}

// checkEqualStands checks that equal arguments give equal results.
func checkEqualStands(t *testing.T, list []impl.Stand, q standQuestion) {
	t.Helper()
	other := q
	other.costs = slices.Clone(q.costs)
	first, second := standResults(list, q), standResults(slices.Clone(list), other)
	if !reflect.DeepEqual(first, second) {
		t.Errorf("%v and %v: %v, then %v", list, q, first, second)
	}
}

func TestStandsStayAsTheyWere(t *testing.T) {
	for _, list := range append(goodForests(), badForests()...) {
		for _, q := range []standQuestion{answeredStandQuestion(), {}, {snow: 2000, least: 1000, years: 200, trees: 1, money: 100, budget: 1000}, {snow: -1, least: -1, years: -1, trees: -1, money: -1, budget: -1}} {
			// Spare stands and costs behind the lists show a change of their unused capacity.
			whole, costs := slices.Concat(list, answeredStands()), append(repeated(60, len(list)), 41, 42, 43)
			stands, numbers := slices.Clone(whole), slices.Clone(costs)
			q.costs = costs[:len(list)]
			checkEqualStands(t, whole[:len(list)], q)
			if !slices.Equal(whole, stands) || !slices.Equal(costs, numbers) {
				t.Errorf("%d stands or their costs were changed", len(list))
			}
		}
	}
}

func TestStandsReturnForOddNumbers(t *testing.T) {
	numbers := append(append(oddNumbers(), otherNumbers()...), 3, 199, 200, 201, 999, 1000, 1001, 1999, 2000, 2001, 19999, 20000, 20001, 100000000, 100000001)
	for _, list := range [][]impl.Stand{nil, {}, {{}}, {{}, {}}, answeredStands(), forestOf("pslpslp")} {
		for _, a := range numbers {
			for _, b := range numbers {
				q := standQuestion{snow: a, least: b, years: a, trees: b, money: a, budget: b, costs: repeated(a, len(list))}
				checkEqualStands(t, list, q)
				q = answeredStandQuestion()
				q.snow, q.least, q.money, q.budget, q.costs = 2000, 1000, a, b, repeated(3, len(list))
				checkEqualStands(t, list, q)
			}
		}
	}
	for _, costs := range oddLists() {
		for _, list := range [][]impl.Stand{nil, {goodStand()}, answeredStands(), equalStands(goodStand(), impl.MaxStands)} {
			q := answeredStandQuestion()
			q.costs = costs
			checkEqualStands(t, list, q)
		}
	}
}

func TestOddStandsReturn(t *testing.T) {
	for _, a := range oddNumbers() {
		for _, b := range oddNumbers() {
			for _, q := range []standQuestion{answeredStandQuestion(), {}} {
				q.costs = repeated(0, 2)
				checkEqualStands(t, []impl.Stand{standOf("a", a, b, a, b), standOf("b", b, b, b, b)}, q)
				checkEqualStands(t, []impl.Stand{standOf("a", 5, a, 5, b), standOf("b", a, 5, b, 5)}, q)
			}
		}
	}
	for _, id := range oddTexts() {
		q := standQuestion{budget: 2, costs: repeated(0, 1)}
		checkEqualStands(t, []impl.Stand{{Id: id}}, q)
	}
	checkEqualStands(t, make([]impl.Stand, 100000), standQuestion{budget: 1, costs: repeated(0, 100000)})
}

func TestReadStandReturnsForOddTexts(t *testing.T) {
	for _, s := range append(oddTexts(), "fir 400,600,700,30", "a 0,0,0,0", strings.Repeat("fir 400,600,700,30 ", 10000), strings.Repeat("\xff ", 100000)) {
		first, isFirst := impl.ReadStand(s)
		second, isSecond := impl.ReadStand(strings.Clone(s))
		if first != second || isFirst != isSecond {
			t.Errorf("ReadStand(%.20q) = %v, %v, then %v, %v", s, first, isFirst, second, isSecond)
		}
	}
}

// listsOfStands holds all lists that the functions of chapter 10 make from stands.
func listsOfStands(list []impl.Stand, costs []int64, least int64) [][]int64 {
	protected, _ := impl.ProtectedStands(list, 300, least)
	set, _, _ := impl.PlantBest(list, costs, 20, 300, least, impl.MaxBudget)
	return [][]int64{protected, set}
}

func TestListsOfStandsAreNewMemory(t *testing.T) {
	for _, list := range append(goodForests(), forestOf("pslpslp"), answeredStands()) {
		for _, least := range []int64{0, 590, 1000} {
			// The first costs are the indices of their stands, which the best set may begin with.
			costs := append([]int64{0, 1, 2, 3, 4}, repeated(9, 20)...)
			before := slices.Clone(costs)
			first, second, wanted := listsOfStands(list, costs[:len(list)], least), listsOfStands(list, costs[:len(list)], least), listsOfStands(slices.Clone(list), before[:len(list)], least)
			for _, numbers := range first {
				overwrite(numbers[:cap(numbers)], -99)
			}
			if !slices.Equal(costs, before) {
				t.Errorf("a result shares memory with the costs of %v", list)
			}
			overwrite(costs, -99)
			if !slices.EqualFunc(second, wanted, slices.Equal) {
				t.Errorf("two results of %v share memory, or one does with the costs", list)
			}
			// The unused capacity of one list may not be part of another one either.
			overwrite(second[0][:cap(second[0])], -99)
			if !slices.Equal(second[1], wanted[1]) {
				t.Errorf("two results of %v share memory", list)
			}
		}
	}
}
