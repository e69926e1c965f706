package velocity_test

import (
	"math/rand"
	"slices"

	"squeaker/api"
	"squeaker/clocks"
	"squeaker/lofts"
)

func isIn(n int, s api.Span) bool { return s.Low <= n && n <= s.High }

// A truth is the second of the liberation, how far it is to each loft, and when each bird came home.
type truth struct {
	start int
	far   [api.MaxLofts]int
	home  []int
}

// An unknown derby is one with all the numbers that each of its truths is made of.
type unknown struct {
	api.Derby
	far  [api.MaxLofts]api.Span
	home [][]int
}

// unknownOf returns what is not known of a valid derby, and the first error of lofts and clocks.
func unknownOf(d api.Derby) (unknown, api.Errno) {
	u := unknown{Derby: d}
	for _, h := range d.Homings {
		far, e := lofts.Distance(d.Map, d.Point, h.Loft, d.Rule)
		if e != api.OK {
			return unknown{}, e
		}
		u.far[h.Loft] = far
		home, e := clocks.Home(d.Timers[h.Timer].Clock, h.Clocking)
		if e != api.OK {
			return unknown{}, e
		}
		var can []int
		for n := home.Low; n <= home.High; n++ {
			second := d.Timers[h.Timer].Set + n
			if h.Judged.Low == 0 && h.Judged.High == 0 || isIn(second, h.Judged) {
				can = append(can, second)
			}
		}
		u.home = append(u.home, can)
	}
	return u, api.OK
}

// flight counts the seconds of a flight one by one.
func (u unknown) flight(start, home int) int {
	n := 0
	for second := start; second < home; second++ {
		if !slices.ContainsFunc(u.Nights, func(night api.Span) bool { return isIn(second, night) }) {
			n++
		}
	}
	return n
}

// noVelocity tells whether some bird may have none.
func (u unknown) noVelocity() bool {
	for i, h := range u.Homings {
		if isIn(0, u.far[h.Loft]) || len(u.home[i]) == 0 {
			return true
		}
		for start := u.Start.Low; start <= u.Start.High; start++ {
			if slices.ContainsFunc(u.home[i], func(home int) bool { return u.flight(start, home) == 0 }) {
				return true
			}
		}
	}
	return false
}

// many returns the number of truths.
func (u unknown) many() int {
	n := u.Start.High - u.Start.Low + 1
	for _, far := range u.far {
		n *= far.High - far.Low + 1
	}
	for _, can := range u.home {
		n *= len(can)
	}
	return n
}

// truths returns all truths.
func (u unknown) truths() []truth {
	var all []truth
	for start := u.Start.Low; start <= u.Start.High; start++ {
		all = append(all, truth{start: start})
	}
	for loft, far := range u.far {
		var more []truth
		for _, x := range all {
			for n := far.Low; n <= far.High; n++ {
				x.far[loft] = n
				more = append(more, x)
			}
		}
		all = more
	}
	for _, can := range u.home {
		var more []truth
		for _, x := range all {
			for _, second := range can {
				x := x
				x.home = append(slices.Clone(x.home), second)
				more = append(more, x)
			}
		}
		all = more
	}
	return all
}

// someTruth returns a truth in which many numbers are at the ends of their spans.
func (u unknown) someTruth(r *rand.Rand) truth {
	x := truth{start: someOf(r, u.Start)}
	for loft, far := range u.far {
		x.far[loft] = someOf(r, far)
	}
	for _, can := range u.home {
		x.home = append(x.home, can[someOf(r, span(0, len(can)-1))])
	}
	return x
}

func someOf(r *rand.Rand, s api.Span) int {
	switch r.Intn(3) {
	case 0:
		return s.Low
	case 1:
		return s.High
	}
	return s.Low + r.Intn(s.High-s.Low+1)
}

// A flown bird is how far it flew in a truth, and in which time.
type flownBird struct{ far, seconds int }

func (b flownBird) isAhead(other flownBird) bool {
	return b.far*other.seconds > other.far*b.seconds
}

// flights returns the birds in a truth.
func (u unknown) flights(x truth, flight func(start, home int) int) []flownBird {
	var out []flownBird
	for i, h := range u.Homings {
		out = append(out, flownBird{x.far[h.Loft], flight(x.start, x.home[i])})
	}
	return out
}

// placeOf returns the place of a bird.
func placeOf(birds []flownBird, i int) int {
	place := 1
	for _, other := range birds {
		if other.isAhead(birds[i]) {
			place++
		}
	}
	return place
}

// remembering returns a function that counts each flight once.
func (u unknown) remembering() func(start, home int) int {
	known := map[[2]int]int{}
	return func(start, home int) int {
		key := [2]int{start, home}
		if n, ok := known[key]; ok {
			return n
		}
		known[key] = u.flight(start, home)
		return known[key]
	}
}

// randomDerby returns a small derby in millimetres and seconds, whose nights and clocks are right; some bird may have no
// velocity. Of some derbies everything is known.
func randomDerby(r *rand.Rand) api.Derby {
	slack := min(2, r.Intn(4))
	d := api.Derby{Map: randomMap(r, slack), Rule: r.Intn(3)}
	d.Start.Low = r.Intn(20)
	d.Start.High = d.Start.Low + r.Intn(1+4*r.Intn(3))
	d.Nights = randomNights(r, 70)
	for range 1 + r.Intn(3) {
		d.Timers = append(d.Timers, randomTimer(r, slack))
	}
	birds := r.Perm(api.MaxMember + 1)
	pace := r.Intn(6)
	for i := range 1 + r.Intn(4) {
		h := api.Homing{Bird: birds[i], Loft: r.Intn(d.Map.Lofts), Timer: r.Intn(len(d.Timers))}
		if h.Loft == d.Point {
			h.Loft = (d.Point + 1) % d.Map.Lofts
		}
		h.Clocking = api.Clocking{Shown: 20 + r.Intn(40), Late: r.Intn(1 + 2*slack)}
		if timer := d.Timers[h.Timer]; pace > 2 {
			// all birds are about as fast, so that a second more or less changes the list
			far, _ := lofts.Distance(d.Map, d.Point, h.Loft, d.Rule)
			h.Clocking.Shown = max(0, timer.Clock.Shown+d.Start.Low+far.Low*pace+r.Intn(4)-timer.Set)
		}
		if r.Intn(4) == 0 {
			h.Judged.Low = r.Intn(60)
			h.Judged.High = h.Judged.Low + r.Intn(20)
		}
		d.Homings = append(d.Homings, h)
	}
	return d
}

// randomMap returns a map of which each loft is known up to some columns and rows.
func randomMap(r *rand.Rand, slack int) api.Map {
	m := api.Map{North: 1 + r.Intn(6), Columns: 2 + r.Intn(4), Lofts: 2 + r.Intn(4)}
	for range 1 + r.Intn(2) {
		m.East = append(m.East, 1+r.Intn(6))
	}
	for loft := range m.Lofts {
		x := randomPart(r, m.Columns, 1+slack/2)
		if loft == 0 {
			x = span(0, 0)
		} else if x.Low == 0 && r.Intn(8) > 0 {
			x = span(1, max(1, x.High))
		}
		m.Surveys = append(m.Surveys, box(loft, x, randomPart(r, len(m.East), 1)))
	}
	if slack > 0 && r.Intn(4) == 0 {
		m.Surveys = append(m.Surveys, slices.Clone(m.Surveys)...)
		last := &m.Surveys[len(m.Surveys)-1]
		last.X = span(m.Columns-1, m.Columns-1)
		m.Wrong = 1
	}
	return m
}

// randomPart returns at most some of the numbers below n.
func randomPart(r *rand.Rand, n, most int) api.Span {
	low := r.Intn(n)
	return span(low, min(n-1, low+r.Intn(most)))
}

// randomNights returns nights up to a second.
func randomNights(r *rand.Rand, last int) []api.Span {
	ends := make([]int, 2*r.Intn(api.MaxNights))
	for i := range ends {
		ends[i] = r.Intn(last)
	}
	slices.Sort(ends)
	var out []api.Span
	for i := 0; i < len(ends); i += 2 {
		if len(out) == 0 || ends[i] > out[len(out)-1].High {
			out = append(out, span(ends[i], ends[i+1]))
		}
	}
	return out
}

func randomTimer(r *rand.Rand, slack int) api.Timer {
	c := api.Clock{Hours: 1, Shown: r.Intn(5)}
	if slack > 0 {
		c.Drift = span(-r.Intn(api.MaxDrift+1), r.Intn(api.MaxDrift+1))
		c.Step = r.Intn(api.MaxStep + 1)
	}
	if at := r.Intn(3600); r.Intn(3) == 0 {
		c.Strikes = []api.Strike{{At: at, Shown: span(max(0, c.Shown+at-3), c.Shown+at+3)}}
	}
	return api.Timer{Clock: c, Set: r.Intn(15)}
}

// randomLargeDerby returns a derby of kilometres and hours.
func randomLargeDerby(r *rand.Rand) api.Derby {
	m := api.Map{North: 1 + r.Intn(api.MaxScale), Columns: 10, Lofts: 2 + r.Intn(api.MaxLofts-1)}
	for range 10 {
		m.East = append(m.East, api.MaxScale/2+r.Intn(api.MaxScale/2))
	}
	m.Surveys = append(m.Surveys, box(0, span(0, 0), span(0, 0)))
	for loft := range m.Lofts - 1 {
		x := randomPart(r, 8, 2)
		m.Surveys = append(m.Surveys, box(loft+1, span(x.Low+2, x.High+2), randomPart(r, 10, 2)))
	}
	start := r.Intn(50000)
	d := api.Derby{Map: m, Rule: r.Intn(3), Start: span(start, start+r.Intn(api.MaxWatch+1)), Nights: randomNights(r, 90000)}
	for range 1 + r.Intn(api.MaxTimers) {
		// a clock that gains alike in all hours has few truths, so that it is quickly asked
		c := api.Clock{Hours: api.MaxHours, Shown: r.Intn(60000), Drift: span(-r.Intn(4), r.Intn(4))}
		d.Timers = append(d.Timers, api.Timer{Clock: c, Set: start - r.Intn(min(start, 5000)+1)})
	}
	birds := r.Perm(api.MaxMember + 1)
	shown := 10000 + r.Intn(18000)
	for i := range 1 + r.Intn(api.MaxHomings) {
		h := api.Homing{Bird: birds[i], Loft: 1 + r.Intn(m.Lofts-1), Timer: r.Intn(len(d.Timers))}
		shown := d.Timers[h.Timer].Clock.Shown + shown + r.Intn(600)
		h.Clocking = api.Clocking{Shown: shown, Late: r.Intn(1 + r.Intn(api.MaxLate))}
		d.Homings = append(d.Homings, h)
	}
	return d
}
