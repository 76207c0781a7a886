package tests

import (
	"math/rand/v2"
	"slices"

	"loop.example/g01013/impl"
)

// cellsWhere returns those cells of a grid for which something holds.
func cellsWhere(g impl.Grid, holds func(int64) bool) []int64 {
	return slices.DeleteFunc(cellsOf(g), func(cell int64) bool { return !holds(cell) })
}

// allCellsOf returns each set of cells of a small grid.
func allCellsOf(g impl.Grid) [][]int64 {
	sets := [][]int64{}
	for bits := range int64(1) << len(g.Heights) {
		sets = append(sets, cellsWhere(g, func(cell int64) bool { return bits>>cell&1 == 1 }))
	}
	return sets
}

// smallShapes holds a flat grid of each shape with at most nine cells.
func smallShapes() []impl.Grid {
	grids := []impl.Grid{}
	for rows := int64(1); rows <= impl.MaxSide; rows++ {
		for columns := int64(1); columns <= impl.MaxSide && rows*columns <= 9; columns++ {
			grids = append(grids, flatGrid(rows, columns, 7))
		}
	}
	return grids
}

// someCellsOf holds sets of cells of a grid: none, all, few, many, and such as touch only at corners or not at all.
func someCellsOf(g impl.Grid) [][]int64 {
	last := int64(len(g.Heights)) - 1
	sets := [][]int64{
		nil, {}, {0}, {last}, cellsOf(g), cellsOf(g)[1:], cellsOf(g)[:last],
		cellsWhere(g, func(cell int64) bool { return (cell/g.Columns+cell%g.Columns)%2 == 0 }),
		cellsWhere(g, func(cell int64) bool { return cell%2 == 1 }),
		cellsWhere(g, func(cell int64) bool { return cell%g.Columns == 0 || cell%g.Columns == g.Columns-1 }),
		cellsWhere(g, func(cell int64) bool { return cell/g.Columns%2 == 0 }),
	}
	mix := rand.New(rand.NewPCG(11, uint64(len(g.Heights))))
	for _, share := range []int{1, 2, 3, 5, 7} {
		sets = append(sets, cellsWhere(g, func(int64) bool { return mix.IntN(8) < share }))
	}
	return sets
}

// badCellsOf holds numbers that are no cells of a grid: equal ones, ones out of order, negative ones, and ones beyond it.
func badCellsOf(g impl.Grid) [][]int64 {
	count := int64(len(g.Heights))
	lists := [][]int64{
		{0, 0}, {count - 1, count - 1}, {-1}, {count}, {-1, 0}, {0, count}, {count - 1, count}, {-2, -1}, {count, count + 1}, {count, 0}, {0, -1}, {-1, count}, {64}, {0, 64}, {63, 64}, {-64}, {-64, 0}, {64, 0}, {100, 200, 300},
		append(cellsOf(g), count), append([]int64{-1}, cellsOf(g)...), append(cellsOf(g), count-1), append(cellsOf(g), 0), append([]int64{0}, cellsOf(g)...), repeated(0, 65), repeated(0, 100000),
	}
	if count > 1 {
		backward := cellsOf(g)
		slices.Reverse(backward)
		lists = append(lists, []int64{1, 0}, []int64{0, 1, 1}, []int64{0, 0, 1}, []int64{1, 0, 1}, []int64{0, 1, 0}, backward, []int64{count - 1, 0})
	}
	for _, n := range otherNumbers() {
		lists = append(lists, []int64{n}, []int64{0, n}, []int64{n, 0}, []int64{n, n})
	}
	return lists
}

// badAspects holds numbers that are no aspects: equal ones, ones out of order, and ones beyond the directions.
func badAspects() [][]int64 {
	lists := [][]int64{
		{-1}, {8}, {0, 0}, {7, 7}, {1, 0}, {7, 0}, {-1, 0}, {7, 8}, {0, 1, 1}, {0, 2, 1}, {3, 3, 4}, {-8}, {64}, {0, 64}, {0, 1, 2, 3, 4, 5, 6, 7, 8}, {-1, 0, 1, 2, 3, 4, 5, 6, 7}, {7, 6, 5, 4, 3, 2, 1, 0}, {0, 1, 2, 3, 4, 5, 6, 7, 7}, repeated(3, 100000),
	}
	for _, n := range otherNumbers() {
		lists = append(lists, []int64{n}, []int64{0, n}, []int64{n, 7})
	}
	return lists
}
