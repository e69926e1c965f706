package velocity

import (
	"slices"

	"squeaker/api"
	"squeaker/clocks"
	"squeaker/lofts"
)

// A race is a valid derby, and what is known of its birds, one for each homing.
type race struct {
	api.Derby
	birds []bird
}

// A bird is a homing, how far it is to its loft, and the seconds in which the bird can have come home.
type bird struct {
	api.Homing
	far, home api.Span
}

// question returns the race of a derby, for a question about some of its homings.
func question(d api.Derby, homings ...int) (*race, api.Errno) {
	if e := checkDerby(d); e != api.OK {
		return nil, e
	}
	if slices.ContainsFunc(homings, func(n int) bool { return !isHoming(d, n) }) {
		return nil, api.ErrArg
	}
	r := &race{Derby: d}
	for _, h := range d.Homings {
		one, e := birdOf(d, h)
		if e != api.OK {
			return nil, e
		}
		r.birds = append(r.birds, one)
	}
	if slices.ContainsFunc(r.birds, func(one bird) bool { return !r.hasVelocity(one) }) {
		return nil, api.ErrHoming
	}
	return r, api.OK
}

// birdOf returns the bird of a homing, with the error of its distance, or else that of its clock.
func birdOf(d api.Derby, h api.Homing) (bird, api.Errno) {
	far, e := lofts.Distance(d.Map, d.Point, h.Loft, d.Rule)
	if e != api.OK {
		return bird{}, e
	}
	timer := d.Timers[h.Timer]
	clocked, e := clocks.Home(timer.Clock, h.Clocking)
	if e != api.OK {
		return bird{}, e
	}
	clocked = api.Span{Low: timer.Set + clocked.Low, High: timer.Set + clocked.High}
	return bird{h, far, both(clocked, judgedOf(h))}, api.OK
}

// judgedOf returns the seconds that what was judged of a homing allows.
func judgedOf(h api.Homing) api.Span {
	if h.Judged == (api.Span{}) {
		return api.Span{High: lastSecond}
	}
	return h.Judged
}

// hasVelocity tells whether a bird has a velocity above 0 whatever the numbers are.
func (r *race) hasVelocity(one bird) bool {
	return one.far.Low > 0 && !isNone(one.home) && r.flights(one).Low > 0
}

// starts yields the seconds in which the birds can have been liberated.
func (r *race) starts(yield func(start int) bool) {
	for start := r.Start.Low; start <= r.Start.High; start++ {
		if !yield(start) {
			return
		}
	}
}

// flight returns how many seconds from one on, and before another one, are in no night: none if it is not later.
func (r *race) flight(from, before int) int {
	seconds := max(0, before-from)
	for _, night := range r.Nights {
		dark := both(night, api.Span{Low: from, High: before - 1})
		seconds -= max(0, dark.High-dark.Low+1)
	}
	return seconds
}

// flights returns the least and the greatest flight of a bird.
func (r *race) flights(one bird) api.Span {
	return api.Span{Low: r.flight(r.Start.High, one.home.Low), High: r.flight(r.Start.Low, one.home.High)}
}

// surelyAhead tells whether a bird is ahead of another one whatever the other numbers are, if the birds were liberated in
// a second.
func (r *race) surelyAhead(start int, a, b bird) bool {
	farA, farB := distances(a, b)
	return isFaster(farA.Low, r.flight(start, a.home.High), farB.High, r.flight(start, b.home.Low))
}

// perhapsAhead tells whether a bird can be ahead of another one, if the birds were liberated in a second.
func (r *race) perhapsAhead(start int, a, b bird) bool {
	farA, farB := distances(a, b)
	return a.Bird != b.Bird &&
		isFaster(farA.High, r.flight(start, a.home.Low), farB.Low, r.flight(start, b.home.High))
}

// distances returns how far two birds flew. Those of one loft flew equally far, so that it does not matter how far.
func distances(a, b bird) (farA, farB api.Span) {
	if a.Loft == b.Loft {
		equal := api.Span{Low: 1, High: 1}
		return equal, equal
	}
	return a.far, b.far
}

// isFaster tells whether a distance divided by seconds is greater than another one.
func isFaster(far, seconds, otherFar, otherSeconds int) bool {
	return far*otherSeconds > otherFar*seconds
}

// compare tells which of two birds is ahead.
func (r *race) compare(a, b bird) int {
	surely := func(x, y bird) bool {
		return r.always(func(start int) bool { return r.surelyAhead(start, x, y) })
	}
	never := func(x, y bird) bool {
		return r.always(func(start int) bool { return !r.perhapsAhead(start, x, y) })
	}
	switch {
	case surely(a, b):
		return api.FirstFaster
	case surely(b, a):
		return api.SecondFaster
	case never(a, b) && never(b, a):
		return api.SameSpeed
	}
	return api.OpenFaster
}

// always tells whether something is so in whichever second the birds were liberated.
func (r *race) always(is func(start int) bool) bool {
	for start := range r.starts {
		if !is(start) {
			return false
		}
	}
	return true
}

// places returns the best and the worst place that a bird can have. It has the one of a second of the liberation if it is
// as fast as it can be, and all others as slow, which can be so together; and the worst one the other way round.
func (r *race) places(one bird) api.Span {
	can := api.Span{Low: len(r.birds), High: 1}
	for start := range r.starts {
		can.Low = min(can.Low, 1+r.count(func(other bird) bool { return r.surelyAhead(start, other, one) }))
		can.High = max(can.High, 1+r.count(func(other bird) bool { return r.perhapsAhead(start, other, one) }))
	}
	return can
}

// count returns the number of birds that are as they must be.
func (r *race) count(is func(bird) bool) int {
	n := 0
	for _, one := range r.birds {
		if is(one) {
			n++
		}
	}
	return n
}

// fraction returns the quotient of two numbers above 0, without a common divisor.
func fraction(num, den int) api.Frac {
	divisor, rest := num, den
	for rest != 0 {
		divisor, rest = rest, divisor%rest
	}
	return api.Frac{Num: num / divisor, Den: den / divisor}
}

// copyOf returns a derby that shares no memory.
func copyOf(d api.Derby) api.Derby {
	d.Map.East = slices.Clone(d.Map.East)
	d.Map.Surveys = slices.Clone(d.Map.Surveys)
	d.Nights = slices.Clone(d.Nights)
	d.Timers = slices.Clone(d.Timers)
	for i := range d.Timers {
		d.Timers[i].Clock.Strikes = slices.Clone(d.Timers[i].Clock.Strikes)
	}
	d.Homings = slices.Clone(d.Homings)
	return d
}
