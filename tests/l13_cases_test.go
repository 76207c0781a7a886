package tests

import (
	"math/rand/v2"
	"slices"

	"loop.example/g01013/impl"
)

// wayDown leads from a cell to a lower one next to it.
type wayDown struct{ to, direction, slope int64 }

// waysDownAsTold returns the ways down from each cell, in the order of their directions.
func waysDownAsTold(g impl.Grid) [][]wayDown {
	all := make([][]wayDown, len(g.Heights))
	for _, from := range cellsOf(g) {
		for _, to := range neighboursAsTold(g, from) {
			if fall := g.Heights[from] - g.Heights[to]; fall > 0 {
				direction, _ := directionAsTold(g, from, to)
				all[from] = append(all[from], wayDown{to, direction, slopeAsTold(direction, fall, g.Size)})
			}
		}
		slices.SortFunc(all[from], func(a, b wayDown) int { return int(a.direction - b.direction) })
	}
	return all
}

// stepAsTold returns what moves on and what settles in a step, cell by cell.
func stepAsTold(all [][]wayDown, masses []int64, friction int64) (moved, settled []int64) {
	moved, settled = make([]int64, len(masses)), make([]int64, len(masses))
	for cell, mass := range masses {
		open := slices.DeleteFunc(slices.Clone(all[cell]), func(way wayDown) bool { return way.slope < friction })
		if len(open) == 0 {
			settled[cell] = mass
			continue
		}
		sum, best := int64(0), open[0]
		for _, way := range open {
			sum += way.slope
			if way.slope > best.slope {
				best = way
			}
		}
		left := mass
		for _, way := range open {
			moved[way.to] += mass * way.slope / sum
			left -= mass * way.slope / sum
		}
		moved[best.to] += left
	}
	return moved, settled
}

// runTold is a run of masses: what settles in the end, the first step in which each cell is reached (or -1), and all steps.
type runTold struct {
	settled, arrivals []int64
	steps             int64
}

func totalOf(masses []int64) int64 {
	sum := int64(0)
	for _, mass := range masses {
		sum += mass
	}
	return sum
}

// runDown repeats steps as long as something has moved on.
func runDown(all [][]wayDown, masses []int64, friction int64) runTold {
	run := runTold{settled: repeated(0, len(masses)), arrivals: repeated(-1, len(masses))}
	for {
		for cell, mass := range masses {
			if mass > 0 && run.arrivals[cell] < 0 {
				run.arrivals[cell] = run.steps
			}
		}
		if totalOf(masses) == 0 {
			return run
		}
		moved, settled := stepAsTold(all, masses, friction)
		for cell, mass := range settled {
			run.settled[cell] += mass
		}
		masses = moved
		run.steps++
	}
}

// reached returns the cells that a run reaches.
func (r runTold) reached() []int64 {
	cells := []int64{}
	for cell, first := range r.arrivals {
		if first >= 0 {
			cells = append(cells, int64(cell))
		}
	}
	return cells
}

// routeCase is a grid with masses.
type routeCase struct {
	g      impl.Grid
	masses []int64
}

// mixedMasses returns masses for so many cells which are often 0, small or as great as may be.
func mixedMasses(mix *rand.Rand, count int) []int64 {
	masses := make([]int64, count)
	kinds := 1 + mix.IntN(6)
	for cell := range masses {
		switch mix.IntN(kinds) {
		case 0:
			masses[cell] = mix.Int64N(4)
		case 1, 2:
			masses[cell] = 0
		case 3:
			masses[cell] = mix.Int64N(100)
		case 4:
			masses[cell] = impl.MaxMass - mix.Int64N(2)
		default:
			masses[cell] = mix.Int64N(impl.MaxMass + 1)
		}
	}
	return masses
}

// oneMass returns masses for all cells of a grid of which only one is positive.
func oneMass(g impl.Grid, cell, mass int64) []int64 {
	masses := make([]int64, len(g.Heights))
	masses[cell] = mass
	return masses
}

// routeCases holds cases that are always the same: those of few cells, and so many mixed ones of each grid.
func routeCases(count int) []routeCase {
	mix := rand.New(rand.NewPCG(13, 2026))
	cases := []routeCase{}
	for _, g := range append(goodGrids(), mixedGrids(1)...) {
		cells := len(g.Heights)
		highest := int64(slices.Index(g.Heights, slices.Max(g.Heights)))
		for _, masses := range [][]int64{repeated(0, cells), repeated(1, cells), repeated(impl.MaxMass, cells), oneMass(g, highest, 1), oneMass(g, highest, 100), oneMass(g, int64(cells)-1, impl.MaxMass)} {
			cases = append(cases, routeCase{g, masses})
		}
		for range count {
			cases = append(cases, routeCase{g, mixedMasses(mix, cells)})
		}
	}
	return cases
}

// frictionsAround holds the limits of frictions, some slopes of a grid, and those just beside them.
func frictionsAround(all [][]wayDown) []int64 {
	frictions := []int64{1, 2, 4999, 5000}
	slopes := []int64{}
	for _, way := range slices.Concat(all...) {
		slopes = append(slopes, way.slope)
	}
	slices.Sort(slopes)
	for _, share := range []int{0, 3, 6, 9} {
		if len(slopes) > 0 {
			slope := slopes[(len(slopes)-1)*share/9]
			frictions = append(frictions, slope-1, slope, slope+1)
		}
	}
	return slices.DeleteFunc(frictions, func(friction int64) bool { return friction < 1 || friction > 5000 })
}

// eachRoute hands out all cases with their ways down and some frictions.
func eachRoute(count int, use func(c routeCase, all [][]wayDown, friction int64)) {
	for _, c := range routeCases(count) {
		all := waysDownAsTold(c.g)
		for _, friction := range frictionsAround(all) {
			use(c, all, friction)
		}
	}
}

// someRoutes hands out each seventh one of these.
func someRoutes(count int, use func(c routeCase, all [][]wayDown, friction int64)) {
	next := 0
	eachRoute(count, func(c routeCase, all [][]wayDown, friction int64) {
		if next%7 == 0 {
			use(c, all, friction)
		}
		next++
	})
}
