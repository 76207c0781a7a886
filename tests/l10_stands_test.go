package tests

import (
	"fmt"
	"math/rand/v2"
	"slices"
	"strings"
	"testing"

	"loop.example/g01013/impl"
)

func standFields() []numberField[impl.Stand] {
	return []numberField[impl.Stand]{
		{"Trees", func(x *impl.Stand) *int64 { return &x.Trees }, 0, 2000},
		{"Height", func(x *impl.Stand) *int64 { return &x.Height }, 0, 5000},
		{"Cover", func(x *impl.Stand) *int64 { return &x.Cover }, 0, 1000},
		{"Gap", func(x *impl.Stand) *int64 { return &x.Gap }, 0, 100},
	}
}

// standOf returns a stand with a name and its numbers.
func standOf(id string, trees, height, cover, gap int64) impl.Stand {
	return impl.Stand{Id: id, Trees: trees, Height: height, Cover: cover, Gap: gap}
}

func goodStand() impl.Stand { return standOf("fir", 400, 600, 700, 30) }

func leastStand() impl.Stand { return impl.Stand{Id: "a"} }

func greatestStand() impl.Stand { return standOf("zzzzzzzzzz", 2000, 5000, 1000, 100) }

// strongStand protects fully under all snow.
func strongStand() impl.Stand { return standOf("oak", 500, 4000, 1000, 20) }

func standNames() []string { return []string{"a", "z", "fir", "a0", "z9", "abcdefghij", "z123456789"} }

// otherNames holds texts that are no names.
func otherNames() []string {
	return []string{
		"", " ", "-", "0", "9", "A", "Z", "Fir", "fIr", "1fir", "0a", " fir", "fir ", "f r", "fir\n", "fir\x00", "\x00", "f-r", "f_r", "f.r", "fir,1", "`", "{", "a{", "a`", "a/", "a:", "\xff", "a\xff", "f\u00efr", "\uff41",
		"abcdefghijk", "a1234567890", strings.Repeat("a", 100000),
	}
}

// badStands holds stands in which the name or one number is not as it must be.
func badStands() []impl.Stand {
	list := []impl.Stand{{}}
	for _, id := range otherNames() {
		list = append(list, standOf(id, 400, 600, 700, 30))
	}
	for _, field := range standFields() {
		for _, n := range append(otherNumbers(), field.least-1, field.greatest+1) {
			list = append(list, withField(goodStand(), field, n))
		}
	}
	return list
}

// named returns stands with names that increase and are otherwise the same.
func named(list ...impl.Stand) []impl.Stand {
	list = slices.Clone(list)
	for i := range list {
		list[i].Id = fmt.Sprintf("s%04d", i)
	}
	return list
}

// equalStands returns so many stands that have only different names.
func equalStands(x impl.Stand, count int) []impl.Stand {
	return named(slices.Repeat([]impl.Stand{x}, count)...)
}

// mixedStand has numbers that often are those of another one, or near a limit.
func mixedStand(mix *rand.Rand) impl.Stand {
	one := func(numbers ...int64) int64 { return numbers[mix.IntN(len(numbers))] }
	return standOf("fir",
		one(0, 1, 7, 100, 250, 499, 500, 501, 1999, 2000, mix.Int64N(501), mix.Int64N(2001)),
		one(0, 1, 599, 600, 601, 3999, 4000, 4974, 4975, 4976, 5000, mix.Int64N(1000), mix.Int64N(5001)),
		one(0, 1, 10, 500, 979, 980, 981, 999, 1000, mix.Int64N(1001), mix.Int64N(1001)),
		one(0, 0, 1, 19, 20, 20, 21, 50, 99, 100, mix.Int64N(40), mix.Int64N(101)))
}

// mixedStands holds stands that are always the same.
func mixedStands(count int) []impl.Stand {
	mix := rand.New(rand.NewPCG(10, 2026))
	list := []impl.Stand{leastStand(), goodStand(), greatestStand(), strongStand()}
	for range count {
		list = append(list, mixedStand(mix))
	}
	return list
}

// mixedForests holds lists of stands that are always the same, so many of each length.
func mixedForests(count int) [][]impl.Stand {
	mix := rand.New(rand.NewPCG(11, 2026))
	lists := [][]impl.Stand{}
	for length := range impl.MaxStands + 1 {
		for range count {
			list := []impl.Stand{}
			for range length {
				list = append(list, mixedStand(mix))
			}
			lists = append(lists, named(list...))
		}
	}
	return lists
}

// goodForests holds valid stands, from none to as many as may be.
func goodForests() [][]impl.Stand {
	lists := [][]impl.Stand{
		nil, {}, {goodStand()}, {leastStand()}, {greatestStand()}, {leastStand(), goodStand(), strongStand(), greatestStand()},
		equalStands(goodStand(), impl.MaxStands-1), equalStands(goodStand(), impl.MaxStands), equalStands(leastStand(), impl.MaxStands), equalStands(strongStand(), impl.MaxStands),
	}
	for _, id := range standNames() {
		lists = append(lists, []impl.Stand{standOf(id, 1, 2, 3, 4)})
	}
	return append(lists, mixedForests(3)...)
}

// standsNamed returns stands with some names.
func standsNamed(ids ...string) []impl.Stand {
	list := []impl.Stand{}
	for _, id := range ids {
		list = append(list, standOf(id, 400, 600, 700, 30))
	}
	return list
}

// badForests holds stands that are too many, not as stated, or not in the order of their names.
func badForests() [][]impl.Stand {
	lists := [][]impl.Stand{
		equalStands(goodStand(), impl.MaxStands+1), equalStands(goodStand(), 5000), make([]impl.Stand, 1), make([]impl.Stand, impl.MaxStands), make([]impl.Stand, impl.MaxStands+1),
		standsNamed("a", "a"), standsNamed("b", "a"), standsNamed("fir", "fir"), standsNamed("ab", "a"), standsNamed("a1", "a0"), standsNamed("aa", "a9"), standsNamed("a10", "a1"), standsNamed("a2", "a10"),
		standsNamed("a", "b", "b"), standsNamed("a", "a", "b"), standsNamed("a", "c", "b"), standsNamed("b", "a", "c"), standsNamed("a", "b", "a"), standsNamed("a", "d", "b", "e"), slices.Repeat([]impl.Stand{goodStand()}, impl.MaxStands),
	}
	last := equalStands(goodStand(), impl.MaxStands)
	last[impl.MaxStands-1].Id = last[impl.MaxStands-2].Id
	first := equalStands(goodStand(), impl.MaxStands)
	first[0].Id = first[1].Id
	lists = append(lists, last, first)
	for _, x := range badStands() {
		lists = append(lists, []impl.Stand{x}, []impl.Stand{leastStand(), x}, []impl.Stand{x, greatestStand()})
		many := equalStands(goodStand(), impl.MaxStands)
		if impl.IsName(x.Id) {
			x.Id = many[impl.MaxStands/2].Id
		}
		many[impl.MaxStands/2] = x
		lists = append(lists, many)
	}
	return lists
}

func TestConstantsOfForests(t *testing.T) {
	if impl.MaxStands != 16 || impl.MaxTrees != 2000 || impl.MaxGap != 100 {
		t.Error(impl.MaxStands, impl.MaxTrees, impl.MaxGap)
	}
}

func TestValidStands(t *testing.T) {
	for _, list := range goodForests() {
		if !impl.ValidStands(list) {
			t.Errorf("ValidStands(%v) = false", list)
		}
	}
	for _, list := range badForests() {
		if impl.ValidStands(list) {
			t.Errorf("ValidStands of %d stands, the first one %.80v, = true", len(list), list[0])
		}
	}
	for count := range 40 {
		if got := impl.ValidStands(equalStands(goodStand(), count)); got != (count <= 16) {
			t.Errorf("ValidStands of %d stands = %v", count, got)
		}
	}
}

func TestValidStandsAtTheirLimits(t *testing.T) {
	for _, x := range []impl.Stand{goodStand(), leastStand(), greatestStand()} {
		for _, field := range standFields() {
			for _, n := range append(otherNumbers(), field.least-1, field.least, field.least+1, field.greatest-1, field.greatest, field.greatest+1) {
				want := n >= field.least && n <= field.greatest
				if got := impl.ValidStands([]impl.Stand{withField(x, field, n)}); got != want {
					t.Errorf("ValidStands with %s %d = %v", field.name, n, got)
				}
			}
		}
	}
}

func TestValidStandsByTheirNames(t *testing.T) {
	// These are in the order of their bytes, which is not that of their numbers.
	ids := []string{"a", "a0", "a1", "a10", "a2", "a9", "aa", "ab", "b", "ba", "z", "zz"}
	for i := range ids {
		for k := range ids {
			if got := impl.ValidStands(standsNamed(ids[i], ids[k])); got != (i < k) {
				t.Errorf("ValidStands of %q and %q = %v", ids[i], ids[k], got)
			}
			for n := range ids {
				if got := impl.ValidStands(standsNamed(ids[i], ids[k], ids[n])); got != (i < k && k < n) {
					t.Errorf("ValidStands of %q, %q and %q = %v", ids[i], ids[k], ids[n], got)
				}
			}
		}
	}
	for _, id := range otherNames() {
		for place := range 3 {
			list := standsNamed("a", "m", "z")
			list[place].Id = id
			if impl.ValidStands(list) {
				t.Errorf("ValidStands with the name %.40q = true", id)
			}
		}
	}
}
