package tests

import (
	"fmt"
	"math/rand/v2"
	"slices"
	"testing"

	"loop.example/g01013/impl"
)

// plantCase is a question about stands to be planted, but for its budget.
type plantCase struct {
	list               []impl.Stand
	costs              []int64
	money, snow, least int64
}

// replantedAsTold returns stands some of which have been planted.
func replantedAsTold(list []impl.Stand, set []int64) []impl.Stand {
	list = slices.Clone(list)
	for _, i := range set {
		list[i] = standOf(list[i].Id, 2000, list[i].Height, 1000, 0)
	}
	return list
}

// costOf returns the sum of the costs of a set.
func costOf(costs, set []int64) int64 {
	sum := int64(0)
	for _, i := range set {
		sum += costs[i]
	}
	return sum
}

// setsOf returns all sets of so many indices.
func setsOf(count int) [][]int64 {
	sets := [][]int64{}
	for mask := range 1 << count {
		set := []int64{}
		for i := range count {
			if mask>>i%2 == 1 {
				set = append(set, int64(i))
			}
		}
		sets = append(sets, set)
	}
	return sets
}

// bestAsTold compares all sets for which the money is enough.
func (c plantCase) bestAsTold() ([]int64, int64) {
	best, most := []int64{}, int64(-1)
	for _, set := range setsOf(len(c.list)) {
		if costOf(c.costs, set) > c.money {
			continue
		}
		many := int64(len(protectedAsTold(replantedAsTold(c.list, set), c.snow, c.least)))
		if many > most || many == most && slices.Compare(set, best) < 0 {
			best, most = set, many
		}
	}
	return best, most
}

// nodesAsTold counts for each beginning of the list the sets for which the money is enough.
func (c plantCase) nodesAsTold() int64 {
	nodes := int64(0)
	for count := 1; count <= len(c.list); count++ {
		for _, set := range setsOf(count) {
			if costOf(c.costs, set) <= c.money {
				nodes++
			}
		}
	}
	return nodes
}

func (c plantCase) String() string {
	return fmt.Sprintf("%v with the costs %v, the money %d, under %d of at least %d", c.list, c.costs, c.money, c.snow, c.least)
}

// check asks for the best stands to be planted with a budget.
func (c plantCase) check(t *testing.T, budget int64, want []int64, most, wanted int64) {
	t.Helper()
	got, many, code := impl.PlantBest(c.list, c.costs, c.money, c.snow, c.least, budget)
	if !slices.Equal(got, want) || many != most || code != wanted {
		t.Errorf("PlantBest of %v = %v, %d, %d with the budget %d, want %v, %d, %d", c, got, many, code, budget, want, most, wanted)
	}
}

// checkBudgets asks with budgets that are enough, just enough, and not enough for so many nodes.
func (c plantCase) checkBudgets(t *testing.T, nodes int64, want []int64, most int64) {
	t.Helper()
	for _, budget := range []int64{1, nodes / 2, nodes - 1, nodes, nodes + 1, 2 * nodes, impl.MaxBudget} {
		switch {
		case budget < 1 || budget > impl.MaxBudget:
			c.check(t, budget, nil, 0, impl.ErrRange)
		case budget < nodes:
			c.check(t, budget, nil, 0, impl.ErrFull)
		default:
			c.check(t, budget, want, most, impl.OK)
		}
	}
}

// forestOf returns a stand for each letter: p for one that protects once it is planted, s for one that does so as it
// is, and l for one that is too low, planted or not; that is so under the snow 2000 with a protection of 1000.
func forestOf(kinds string) []impl.Stand {
	list := []impl.Stand{}
	for _, kind := range kinds {
		list = append(list, map[rune]impl.Stand{'p': standOf("p", 0, 4000, 0, 100), 's': strongStand(), 'l': standOf("l", 2000, 3999, 1000, 0)}[kind])
	}
	return named(list...)
}

func TestKnownBestPlanting(t *testing.T) {
	for _, known := range []struct {
		kinds string
		costs []int64
		money int64
		want  []int64
		most  int64
	}{
		{"p", []int64{50}, 100, []int64{0}, 1}, {"p", []int64{50}, 50, []int64{0}, 1}, {"p", []int64{50}, 49, nil, 0}, {"p", []int64{50}, 0, nil, 0}, {"p", []int64{0}, 0, []int64{0}, 1}, {"p", []int64{1}, 1, []int64{0}, 1},
		// What protects already, or never, need not be planted.
		{"", nil, 0, nil, 0}, {"", nil, 100, nil, 0}, {"s", []int64{0}, 100, nil, 1}, {"l", []int64{0}, 100, nil, 0}, {"slsl", []int64{0, 0, 0, 0}, 0, nil, 2}, {"ssss", []int64{1, 1, 1, 1}, 4, nil, 4}, {"llll", []int64{1, 1, 1, 1}, 4, nil, 0},
		// The money is enough for both, just for both, for one, for none.
		{"pp", []int64{50, 50}, 101, []int64{0, 1}, 2}, {"pp", []int64{50, 50}, 100, []int64{0, 1}, 2}, {"pp", []int64{50, 50}, 99, []int64{0}, 1}, {"pp", []int64{50, 50}, 50, []int64{0}, 1}, {"pp", []int64{50, 50}, 49, nil, 0}, {"pp", []int64{50, 49}, 49, []int64{1}, 1}, {"pp", []int64{49, 50}, 49, []int64{0}, 1}, {"pp", []int64{100, 1}, 100, []int64{0}, 1}, {"pp", []int64{100, 0}, 100, []int64{0, 1}, 2},
		// Two cheap ones are better than a dear one.
		{"ppp", []int64{10, 5, 5}, 10, []int64{1, 2}, 2}, {"ppp", []int64{10, 5, 5}, 9, []int64{1}, 1}, {"ppp", []int64{5, 10, 5}, 10, []int64{0, 2}, 2}, {"ppp", []int64{5, 5, 10}, 10, []int64{0, 1}, 2}, {"ppp", []int64{5, 5, 10}, 15, []int64{0, 1}, 2}, {"ppp", []int64{5, 6, 4}, 10, []int64{0, 2}, 2}, {"pppp", []int64{6, 4, 3, 3}, 10, []int64{1, 2, 3}, 3}, {"pppp", []int64{3, 4, 3, 3}, 10, []int64{0, 1, 2}, 3},
		// A set comes before those that begin with it.
		{"pl", []int64{1, 1}, 2, []int64{0}, 1}, {"ps", []int64{1, 1}, 2, []int64{0}, 2}, {"ppl", []int64{1, 1, 0}, 2, []int64{0, 1}, 2}, {"plllll", []int64{0, 0, 0, 0, 0, 0}, 0, []int64{0}, 1}, {"plslpls", repeated(0, 7), 0, []int64{0, 1, 2, 3, 4}, 4},
		// A set with a lesser index at the first difference comes before others, though that stand need not be planted.
		{"lp", []int64{0, 50}, 50, []int64{0, 1}, 1}, {"lp", []int64{50, 50}, 100, []int64{0, 1}, 1}, {"lp", []int64{50, 50}, 99, []int64{1}, 1}, {"sp", []int64{10, 10}, 20, []int64{0, 1}, 2}, {"sp", []int64{10, 10}, 19, []int64{1}, 2}, {"plp", []int64{1, 1, 1}, 3, []int64{0, 1, 2}, 2}, {"plp", []int64{1, 1, 1}, 2, []int64{0, 2}, 2}, {"llp", []int64{1, 1, 1}, 2, []int64{0, 2}, 1}, {"llp", []int64{2, 1, 1}, 2, []int64{1, 2}, 1}, {"llp", []int64{2, 2, 1}, 2, []int64{2}, 1}, {"llp", []int64{1, 1, 1}, 3, []int64{0, 1, 2}, 1}, {"lpp", []int64{1, 1, 1}, 2, []int64{1, 2}, 2}, {"pplp", []int64{2, 1, 1, 1}, 3, []int64{0, 1}, 2}, {"pplp", []int64{2, 2, 1, 1}, 3, []int64{0, 3}, 2},
		// The greatest costs and the greatest money.
		{"pppp", repeated(1000000, 4), 4000000, []int64{0, 1, 2, 3}, 4}, {"pppp", repeated(1000000, 4), 3999999, []int64{0, 1, 2}, 3}, {"pppp", repeated(1000000, 4), 999999, nil, 0}, {"pppp", repeated(1000000, 4), 100000000, []int64{0, 1, 2, 3}, 4}, {"ppp", []int64{1000000, 0, 1000000}, 1000000, []int64{0, 1}, 2},
	} {
		c := plantCase{list: forestOf(known.kinds), costs: known.costs, money: known.money, snow: 2000, least: 1000}
		c.checkBudgets(t, c.nodesAsTold(), known.want, known.most)
		if want, most := c.bestAsTold(); !slices.Equal(want, known.want) || most != known.most {
			t.Errorf("%v: what is told is %v, %d, but %v, %d is known", c, want, most, known.want, known.most)
		}
	}
}

func TestPlantingByWhatIsWanted(t *testing.T) {
	plain := named(standOf("a", 100, 600, 300, 40), standOf("b", 0, 601, 0, 100), standOf("c", 500, 602, 700, 20), standOf("d", 2000, 0, 1000, 0))
	for _, known := range []struct {
		snow, least int64
		want        []int64
		most        int64
	}{
		// All stands protect by at least nothing.
		{0, 0, nil, 4}, {2000, 0, nil, 4}, {0, 1, []int64{0, 1}, 4}, {1, 1, []int64{0, 1}, 3}, {300, 1, []int64{0, 1}, 3}, {301, 1, nil, 1}, {302, 1, nil, 0}, {302, 0, nil, 4}, {301, 701, []int64{0, 1, 2}, 1}, {301, 700, nil, 1}, {300, 1000, []int64{0, 1, 2}, 3}, {2000, 1000, nil, 0}, {0, 1000, []int64{0, 1, 2}, 4},
	} {
		c := plantCase{list: plain, costs: repeated(1, 4), money: 4, snow: known.snow, least: known.least}
		c.checkBudgets(t, 30, known.want, known.most)
	}
	// A tall stand that is planted protects fully under all snow.
	for _, x := range mixedStands(100) {
		tall := x.Height >= 4000
		got, many, code := impl.PlantBest([]impl.Stand{x}, []int64{7}, 7, 2000, 1000, 2)
		if want := protectionAsTold(x, 2000) < 1000 && tall; (len(got) == 1) != want || (many == 1) != tall || code != impl.OK {
			t.Errorf("PlantBest of %v = %v, %d, %d", x, got, many, code)
		}
	}
}

func TestNodesOfPlanting(t *testing.T) {
	for _, known := range []struct {
		costs        []int64
		money, nodes int64
	}{
		// Each stand for which the money is enough doubles the nodes of the next one.
		{[]int64{0}, 0, 2}, {[]int64{1}, 0, 1}, {[]int64{1, 1}, 0, 2}, {[]int64{0, 1}, 0, 4}, {[]int64{1, 0}, 0, 3}, {[]int64{1, 1}, 1, 5}, {[]int64{1, 1}, 2, 6}, {[]int64{1, 1, 1}, 1, 9}, {[]int64{1, 1, 1}, 2, 13}, {[]int64{1, 1, 1}, 3, 14}, {[]int64{2, 1, 1}, 2, 10}, {[]int64{1, 1, 2}, 2, 11},
		{repeated(0, 13), 0, 16382}, {repeated(1, 15), 0, 15}, {repeated(1, 16), 0, 16}, {repeated(1, 16), 1, 152}, {repeated(1000000, 13), 100000000, 16382}, {append(repeated(9, 3), repeated(0, 13)...), 8, 16385}, {append(repeated(0, 13), 9), 8, 24574},
		// As many nodes as the greatest budget, one less and one more.
		{[]int64{1, 7, 2, 9, 8, 6, 2, 4, 4, 2, 2, 7, 8, 6, 9}, 28, 20000}, {[]int64{4, 8, 7, 3, 3, 4, 8, 0, 8, 5, 8, 5, 0, 7}, 35, 19999}, {[]int64{6, 9, 2, 8, 6, 8, 1, 2, 3, 6, 3, 2, 3, 0}, 31, 20001}, {repeated(0, 14), 0, 32766}, {repeated(0, 16), 100000000, 131070},
	} {
		c := plantCase{list: equalStands(strongStand(), len(known.costs)), costs: known.costs, money: known.money, snow: 2000, least: 1000}
		c.checkBudgets(t, known.nodes, nil, int64(len(known.costs)))
		if nodes := c.nodesAsTold(); nodes != known.nodes {
			t.Errorf("%v: %d nodes are told, but %d are known", c, nodes, known.nodes)
		}
	}
}

// TestBudgetsOfNoStands needs no node.
func TestBudgetsOfNoStands(t *testing.T) {
	for _, budget := range []int64{1, 2, 19999, 20000} {
		plantCase{}.check(t, budget, nil, 0, impl.OK)
	}
	for _, budget := range append(otherNumbers(), -1, 0, 20001) {
		plantCase{}.check(t, budget, nil, 0, impl.ErrRange)
	}
}

// TestPlantingOfManyStands plants as many stands as a budget allows at all.
func TestPlantingOfManyStands(t *testing.T) {
	all := []int64{}
	for i := range int64(13) {
		all = append(all, i)
	}
	plantCase{list: forestOf("ppppppppppppp"), costs: repeated(5, 13), money: 65, snow: 2000, least: 1000}.check(t, 16382, all, 13, impl.OK)
	plantCase{list: forestOf("lllllllllllpp"), costs: repeated(5, 13), money: 65, snow: 2000, least: 1000}.check(t, 16382, all, 2, impl.OK)
	plantCase{list: forestOf("ppppppppppppp"), costs: repeated(5, 13), money: 64, snow: 2000, least: 1000}.check(t, 16381, all[:12], 12, impl.OK)
	// Of 16 stands the money is enough for just one, the last of which costs least.
	costs := append(repeated(10, 15), 9)
	plantCase{list: forestOf("pppppppppppppppp"), costs: costs, money: 10, snow: 2000, least: 1000}.check(t, 20000, []int64{0}, 1, impl.OK)
	plantCase{list: forestOf("lllllllllllllllp"), costs: costs, money: 10, snow: 2000, least: 1000}.check(t, 20000, []int64{15}, 1, impl.OK)
	plantCase{list: forestOf("pppppppppppppppp"), costs: costs, money: 9, snow: 2000, least: 1000}.check(t, 17, []int64{15}, 1, impl.OK)
	plantCase{list: forestOf("pppppppppppppppp"), costs: costs, money: 9, snow: 2000, least: 1000}.check(t, 16, nil, 0, impl.ErrFull)
}

// mixedPlantCases holds questions about stands of some kinds, and about others, that are always the same.
func mixedPlantCases(count int) []plantCase {
	mix := rand.New(rand.NewPCG(12, 2026))
	cases := []plantCase{}
	for range count {
		kinds, list, costs := "", []impl.Stand{}, []int64{}
		for range mix.IntN(7) {
			kinds += string("pppsl"[mix.IntN(5)])
			list = append(list, mixedStand(mix))
			costs = append(costs, mix.Int64N(7))
		}
		money := mix.Int64N(22)
		cases = append(cases, plantCase{list: forestOf(kinds), costs: costs, money: money, snow: 2000, least: 1000})
		cases = append(cases, plantCase{list: named(list...), costs: costs, money: money, snow: mix.Int64N(700), least: mix.Int64N(1001)})
	}
	return cases
}

func TestPlantBest(t *testing.T) {
	chosen, needless := 0, 0
	for _, c := range mixedPlantCases(700) {
		want, most := c.bestAsTold()
		c.checkBudgets(t, c.nodesAsTold(), want, most)
		got, many, _ := impl.PlantBest(c.list, c.costs, c.money, c.snow, c.least, impl.MaxBudget)
		protected, code := impl.ProtectedStands(replantedAsTold(c.list, got), c.snow, c.least)
		if int64(len(protected)) != many || code != impl.OK || costOf(c.costs, got) > c.money {
			t.Errorf("PlantBest of %v = %v, %d, but %v protect enough then, %d", c, got, many, protected, code)
		}
		chosen += len(got)
		before := protectedAsTold(c.list, c.snow, c.least)
		needless += len(got) - (len(protected) - len(before))
	}
	if chosen < 500 || needless < 50 {
		t.Errorf("only %d stands are planted, and %d of these though they need not be", chosen, needless)
	}
}

// TestPlantingUnderMoreSnow checks that neither more snow nor more that is wanted nor less money saves more stands.
func TestPlantingUnderMoreSnow(t *testing.T) {
	for _, c := range mixedPlantCases(60) {
		_, most, code := impl.PlantBest(c.list, c.costs, c.money, c.snow, c.least, impl.MaxBudget)
		for _, harder := range []plantCase{{money: c.money, snow: c.snow + 1, least: c.least}, {money: c.money, snow: 2000, least: c.least}, {money: c.money, snow: c.snow, least: min(1000, c.least+1)}, {money: c.money, snow: c.snow, least: 1000}, {money: c.money / 2, snow: c.snow, least: c.least}, {snow: c.snow, least: c.least}} {
			_, many, failure := impl.PlantBest(c.list, c.costs, harder.money, min(2000, harder.snow), harder.least, impl.MaxBudget)
			if many > most || code != impl.OK || failure != impl.OK {
				t.Errorf("PlantBest of %v makes %d, %d protect, and %d, %d where it is harder", c, most, code, many, failure)
			}
		}
	}
}
