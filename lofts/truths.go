package lofts

import (
	"iter"
	"math"
	"slices"

	"squeaker/api"
)

// An opened map is a valid map, the least number of surveys that are wrong, and all spots of each loft, row by row.
type opened struct {
	api.Map
	fewest int
	spots  [api.MaxLofts][]spot
}

// A spot is a place that a loft could have, and how many more surveys are wrong than if it had its best one.
type spot struct {
	api.Point
	more int
}

// Places are those of some lofts, each at the number of its loft.
type places [api.MaxLofts]api.Point

// question opens a map for a question about some lofts, whose other arguments are as described, or are not.
func question(m api.Map, described bool, lofts ...int) (*opened, api.Errno) {
	if e := Check(m); e != api.OK {
		return nil, e
	}
	for _, loft := range lofts {
		described = described && isLoft(m, loft)
	}
	if !described {
		return nil, api.ErrArg
	}
	o := open(m)
	if o.spare() < 0 {
		return nil, api.ErrNone
	}
	return o, api.OK
}

// open opens a valid map.
func open(m api.Map) *opened {
	o := &opened{Map: m}
	for loft := range m.Lofts {
		fewest := len(m.Surveys)
		for p := range allPlaces(m) {
			s := spot{p, wrongAt(m, loft, p)}
			o.spots[loft] = append(o.spots[loft], s)
			fewest = min(fewest, s.more)
		}
		for i := range o.spots[loft] {
			o.spots[loft][i].more -= fewest
		}
		o.fewest += fewest
	}
	return o
}

// allPlaces yields all places of a valid map, row by row.
func allPlaces(m api.Map) iter.Seq[api.Point] {
	return func(yield func(api.Point) bool) {
		for y := range m.East {
			for x := range m.Columns {
				if !yield(api.Point{X: x, Y: y}) {
					return
				}
			}
		}
	}
}

// wrongAt returns how many surveys of a loft are wrong if it has a place.
func wrongAt(m api.Map, loft int, p api.Point) int {
	wrong := 0
	for _, s := range m.Surveys {
		if s.Loft == loft && !holds(m, s, p) {
			wrong++
		}
	}
	return wrong
}

// holds tells whether what a survey says is so if its loft has a place.
func holds(m api.Map, s api.Survey, p api.Point) bool {
	if s.Kind == api.Box {
		return isIn(p.X, s.X) && isIn(p.Y, s.Y)
	}
	return isIn(down(square(m, s.At, p)), s.Dist)
}

// spare returns how many more surveys can be wrong than the fewest that are; it is below 0 if there is no truth.
func (o *opened) spare() int { return o.Wrong - o.fewest }

// many returns the number of truths.
func (o *opened) many() int {
	// At each number there are the ways to place the lofts so far such that so many more surveys are wrong.
	ways := [api.MaxWrong + 1]int{1}
	for loft := range o.Lofts {
		var longer [api.MaxWrong + 1]int
		for _, s := range o.spots[loft] {
			for more := s.more; more <= o.spare(); more++ {
				longer[more] += ways[more-s.more]
			}
		}
		ways = longer
	}
	all := 0
	for _, n := range ways {
		all += n
	}
	return all
}

// truths yields what places some lofts have together in the truths, each choice of them once. A loft that is named
// twice has one place.
func (o *opened) truths(lofts ...int) iter.Seq[places] {
	return func(yield func(places) bool) {
		named := slices.Sorted(slices.Values(lofts))
		o.settle(slices.Compact(named), places{}, o.spare(), yield)
	}
}

// settle yields the places with those of some more lofts, of whose surveys so many more as are spare can be wrong.
// It returns false if no more are wanted.
func (o *opened) settle(lofts []int, at places, spare int, yield func(places) bool) bool {
	if len(lofts) == 0 {
		return yield(at)
	}
	loft := lofts[0]
	for _, s := range o.spots[loft] {
		at[loft] = s.Point
		if s.more <= spare && !o.settle(lofts[1:], at, spare-s.more, yield) {
			return false
		}
	}
	return true
}

// best returns the first place of a loft with which the fewest surveys are wrong.
func (o *opened) best(loft int) api.Point {
	first := slices.IndexFunc(o.spots[loft], func(s spot) bool { return s.more == 0 })
	return o.spots[loft][first].Point
}

// canHold tells whether what a survey says is so in some truth.
func (o *opened) canHold(s api.Survey) bool {
	for at := range o.truths(s.Loft) {
		if holds(o.Map, s, at[s.Loft]) {
			return true
		}
	}
	return false
}

// distance returns the least and the greatest distance of two lofts in a truth, of which there is one, rounded.
func (o *opened) distance(a, b int, round func(square int) int) api.Span {
	low, high := math.MaxInt, 0
	for at := range o.truths(a, b) {
		q := square(o.Map, at[a], at[b])
		low, high = min(low, q), max(high, q)
	}
	return api.Span{Low: round(low), High: round(high)}
}

// only returns the one answer that was seen.
func only(seen map[int]bool) int {
	one := 0
	for answer := range seen {
		one = answer
	}
	return one
}
