package lofts_test

import (
	"math/big"
	"math/rand"
	"slices"

	"squeaker/api"
)

// everywhere returns all places of a map, row by row.
func everywhere(m api.Map) []api.Point {
	var out []api.Point
	for y := range m.East {
		for x := range m.Columns {
			out = append(out, at(x, y))
		}
	}
	return out
}

// quad returns Q of the chapter: the square of twice the distance.
func quad(m api.Map, a, b api.Point) *big.Int {
	side := func(n int) *big.Int {
		s := big.NewInt(int64(n))
		return s.Mul(s, s)
	}
	return new(big.Int).Add(side(2*m.North*(a.Y-b.Y)), side((m.East[a.Y]+m.East[b.Y])*(a.X-b.X)))
}

// twice compares half the root of q with the half of n, which can be below 0.
func twice(q *big.Int, n int) int {
	if n < 0 {
		return 1
	}
	s := big.NewInt(int64(n))
	return q.Cmp(s.Mul(s, s))
}

// rounded returns the number that a rule describes: it tries those about the root.
func rounded(q *big.Int, rule int) int {
	about := int(new(big.Int).Sqrt(q).Int64()) / 2
	for d := max(0, about-2); d <= about+2; d++ {
		switch rule {
		case api.Down:
			if twice(q, 2*d) >= 0 && twice(q, 2*d+2) < 0 {
				return d
			}
		case api.Near:
			if twice(q, 2*d-1) >= 0 && twice(q, 2*d+1) < 0 {
				return d
			}
		case api.Up:
			if twice(q, 2*d) <= 0 && twice(q, 2*d-2) > 0 {
				return d
			}
		}
	}
	panic("no number is described")
}

// says tells whether what a survey says is so for a place of its loft.
func says(m api.Map, s api.Survey, p api.Point) bool {
	if s.Kind == api.Box {
		return s.X.Low <= p.X && p.X <= s.X.High && s.Y.Low <= p.Y && p.Y <= s.Y.High
	}
	d := rounded(quad(m, s.At, p), api.Down)
	return s.Dist.Low <= d && d <= s.Dist.High
}

// wrongs returns the numbers of the surveys that are wrong for the places of all lofts.
func wrongs(m api.Map, where []api.Point) []int {
	var out []int
	for i, s := range m.Surveys {
		if !says(m, s, where[s.Loft]) {
			out = append(out, i)
		}
	}
	return out
}

// A world is a place of each loft, and the surveys that are wrong then.
type world struct {
	where []api.Point
	wrong []int
}

// worlds returns all choices of places, and those of them that are truths.
func worlds(m api.Map) (all, truths []world) {
	where := make([]api.Point, m.Lofts)
	var choose func(loft int)
	choose = func(loft int) {
		if loft < m.Lofts {
			for _, p := range everywhere(m) {
				where[loft] = p
				choose(loft + 1)
			}
			return
		}
		w := world{slices.Clone(where), wrongs(m, where)}
		all = append(all, w)
		if len(w.wrong) <= m.Wrong {
			truths = append(truths, w)
		}
	}
	choose(0)
	return all, truths
}

// A shape is how large random maps are.
type shape struct {
	rows, columns, scale, lofts, surveys int
}

// small has maps of which all truths can be tried one by one.
var small = shape{rows: 3, columns: 3, scale: 5, lofts: 3, surveys: 7}

// large has maps of which they can not.
var large = shape{rows: api.MaxRows, columns: api.MaxColumns, scale: api.MaxScale, lofts: api.MaxLofts, surveys: api.MaxSurveys}

// randomMap returns a valid map, whose surveys mostly fit to the places that it also returns.
func randomMap(r *rand.Rand, s shape) (api.Map, []api.Point) {
	m := api.Map{North: 1 + r.Intn(s.scale), Columns: 1 + r.Intn(s.columns), Lofts: 1 + r.Intn(s.lofts), Wrong: min(r.Intn(api.MaxWrong+1), r.Intn(api.MaxWrong+1))}
	for range 1 + r.Intn(s.rows) {
		m.East = append(m.East, 1+r.Intn(s.scale))
	}
	var where []api.Point
	for range m.Lofts {
		where = append(where, randomPlace(r, m))
	}
	for range r.Intn(s.surveys + 1) {
		m.Surveys = append(m.Surveys, randomSurvey(r, m, where))
	}
	return m, where
}

func randomPlace(r *rand.Rand, m api.Map) api.Point {
	return at(r.Intn(m.Columns), r.Intn(len(m.East)))
}

// randomSurvey returns a valid survey of a map, often one that is so for some places.
func randomSurvey(r *rand.Rand, m api.Map, where []api.Point) api.Survey {
	loft := r.Intn(m.Lofts)
	p := where[loft]
	if r.Intn(3) == 0 {
		p = randomPlace(r, m)
	}
	if r.Intn(2) == 0 {
		return box(loft, around(r, p.X, 1, m.Columns-1), around(r, p.Y, 1, len(m.East)-1))
	}
	from := randomPlace(r, m)
	return tape(loft, from, around(r, rounded(quad(m, from, p), api.Down), m.North, api.MaxLength))
}

// around returns a span with a number and up to twice so many more to each side, from 0 to the last one.
func around(r *rand.Rand, n, more, last int) api.Span {
	return span(max(0, n-r.Intn(2*more+1)), min(last, n+r.Intn(2*more+1)))
}

func copied(m api.Map) api.Map {
	m.East, m.Surveys = slices.Clone(m.East), slices.Clone(m.Surveys)
	return m
}
