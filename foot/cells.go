package foot

import (
	"cmp"
	"slices"

	"fluxmast/api"
)

// rows is a map on its way to cells: row by row from the tower on, with the middle of each row at the index MaxWide. What
// the map does not have is 0.
type rows [api.MaxSteps][2*api.MaxWide + 1]int

// Placed returns the cells of a map on the ground.
func Placed(m [][]int, tower api.Point, quarter int) ([]Cell, api.Errno) {
	r, e := rowsOf(m)
	switch {
	case e != api.OK:
		return nil, e
	case !placed(tower.X, tower.Y, maxTower) || !isQuarter(quarter):
		return nil, api.ErrArg
	}
	return inOrder(turned(r.cells(tower), tower, quarter)), api.OK
}

// Turned returns cells that are turned about the corner of a cell by quarters.
func Turned(l []Cell, about api.Point, quarter int) ([]Cell, api.Errno) {
	e := cellsError(l)
	switch {
	case e != api.OK:
		return nil, e
	case !placed(about.X, about.Y, maxPlace) || !isQuarter(quarter):
		return nil, api.ErrArg
	}
	all := inOrder(turned(l, about, quarter))
	switch {
	case slices.ContainsFunc(all, func(c Cell) bool { return !placed(c.X, c.Y, maxPlace) }):
		return nil, api.ErrOutside
	case anyFull(all):
		return nil, api.ErrFull
	}
	return all, api.OK
}

// Together returns the cells of two lists, with the sums of their weights.
func Together(a, b []Cell) ([]Cell, api.Errno) {
	for _, l := range [...][]Cell{a, b} {
		if e := cellsError(l); e != api.OK {
			return nil, e
		}
	}
	all := inOrder(slices.Concat(a, b))
	if len(all) > api.MaxCells || anyFull(all) {
		return nil, api.ErrFull
	}
	return all, api.OK
}

// Total returns the sum of all weights.
func Total(l []Cell) (int, api.Errno) {
	if e := cellsError(l); e != api.OK {
		return 0, e
	}
	sum := 0
	for _, c := range l {
		sum += c.Weight
	}
	return sum, api.OK
}

// Peak returns the cell with the greatest weight.
func Peak(l []Cell) (Cell, api.Errno) {
	e := cellsError(l)
	switch {
	case e != api.OK:
		return Cell{}, e
	case len(l) == 0:
		return Cell{}, api.ErrNone
	}
	return l[byWeight(l)[0]], api.OK
}

// Least returns the fewest cells that have a part of the whole weight.
func Least(l []Cell, part, of int) ([]int, api.Errno) {
	total, e := Total(l)
	if e != api.OK {
		return nil, e
	}
	if e := partError(part, of); e != api.OK {
		return nil, e
	}
	order, sum, taken := byWeight(l), 0, 0
	for of*sum < part*total { // all cells have enough, as part is at most of
		sum += l[order[taken]].Weight
		taken++
	}
	least := order[:taken]
	slices.Sort(least)
	return least, api.OK
}

// cellsError returns the error of cells.
func cellsError(l []Cell) api.Errno {
	if len(l) > api.MaxCells {
		return api.ErrSize
	}
	for _, c := range l {
		if !placed(c.X, c.Y, maxPlace) || !between(c.Weight, 0, api.MaxWhole) {
			return api.ErrArg
		}
	}
	return api.OK
}

// rowsOf returns the rows of a map, with the error of the map.
func rowsOf(m [][]int) (rows, api.Errno) {
	if !between(len(m), 1, api.MaxSteps) {
		return rows{}, api.ErrSize
	}
	width := len(m[0])
	for _, row := range m {
		if len(row) != width || width%2 == 0 || width > 2*api.MaxWide+1 {
			return rows{}, api.ErrSize
		}
	}
	var r rows
	for i, row := range m {
		for j, weight := range row {
			if !between(weight, 0, api.MaxWhole) {
				return rows{}, api.ErrArg
			}
			r[i][api.MaxWide-width/2+j] = weight
		}
	}
	return r, api.OK
}

// cells returns the cells north of a tower.
func (r rows) cells(tower api.Point) []Cell {
	var l []Cell
	for i, row := range r {
		for j, weight := range row {
			l = append(l, Cell{tower.X - api.MaxWide + j, tower.Y + i, weight})
		}
	}
	return l
}

func isQuarter(n int) bool {
	return between(n, 0, 3)
}

// turned returns the cells that are turned about a point by quarters.
func turned(l []Cell, about api.Point, quarters int) []Cell {
	all := slices.Clone(l)
	for i, c := range all {
		for range quarters {
			// The corner with the greatest y becomes the one with the least x.
			c.X, c.Y = about.X+about.Y-(c.Y+1), about.Y+c.X-about.X
		}
		all[i] = c
	}
	return all
}

// inOrder returns the cells of a list, which it sorts, in order, with the sums of the weights of those that are the same.
func inOrder(l []Cell) []Cell {
	slices.SortFunc(l, func(a, b Cell) int { return cmp.Or(cmp.Compare(a.Y, b.Y), cmp.Compare(a.X, b.X)) })
	var all []Cell
	for _, c := range l {
		last := len(all) - 1
		switch {
		case c.Weight == 0:
		case last >= 0 && all[last].X == c.X && all[last].Y == c.Y:
			all[last].Weight += c.Weight
		default:
			all = append(all, c)
		}
	}
	return all
}

// anyFull reports whether a cell has more weight than it may have.
func anyFull(l []Cell) bool {
	return slices.ContainsFunc(l, func(c Cell) bool { return c.Weight > api.MaxWhole })
}

// byWeight returns the indices of cells, descending by weight, and of equal ones ascending.
func byWeight(l []Cell) []int {
	order := make([]int, len(l))
	for i := range order {
		order[i] = i
	}
	slices.SortFunc(order, func(i, k int) int { return cmp.Or(cmp.Compare(l[k].Weight, l[i].Weight), cmp.Compare(i, k)) })
	return order
}
