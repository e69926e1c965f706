package lofts

import (
	"sort"

	"squeaker/api"
)

// greatestRoot is not below the root of any square: no way is longer than all rows and then all columns.
const greatestRoot = 2 * api.MaxScale * (api.MaxRows + api.MaxColumns)

// square returns the square of twice the distance of two places of a valid map.
func square(m api.Map, a, b api.Point) int {
	north := 2 * m.North * (a.Y - b.Y)
	east := (m.East[a.Y] + m.East[b.Y]) * (a.X - b.X)
	return north*north + east*east
}

// rounding returns how a rule makes a distance of the square of twice the distance, and whether there is such a rule.
func rounding(rule int) (round func(square int) int, ok bool) {
	halved := func(twice func(square int) int) func(int) int {
		return func(square int) int { return twice(square) / 2 }
	}
	switch rule {
	case api.Down:
		return down, true
	case api.Near:
		return halved(func(square int) int { return root(square) + 1 }), true
	case api.Up:
		return halved(func(square int) int { return rootAbove(square) + 1 }), true
	}
	return nil, false
}

// down makes a distance, rounded down, of the square of twice the distance.
func down(square int) int { return root(square) / 2 }

// root returns the greatest integer whose square is not above n.
func root(n int) int {
	return sort.Search(greatestRoot, func(r int) bool { return (r+1)*(r+1) > n })
}

// rootAbove returns the least integer whose square is not below n.
func rootAbove(n int) int {
	r := root(n)
	if r*r < n {
		r++
	}
	return r
}

// nearer tells which of two places is nearer, by the squares of twice their distances.
func nearer(a, b int) int {
	switch {
	case a < b:
		return api.FirstNearer
	case a > b:
		return api.SecondNearer
	}
	return api.SameDistance
}
