package clocks

import (
	"iter"
	"math"

	"squeaker/api"
)

// hour is the number of seconds of an hour.
const hour = 3600

// A course is what a clock gains before an hour, and what it gains in it.
type course struct {
	before, gain int
}

// Courses are those that an hour can have, each with a number.
type courses map[course]int

// Hours are a valid clock, and what can be in each of its hours in a truth: the courses, each with the number of ways
// that lead to it.
type hours struct {
	api.Clock
	can []courses
}

// question returns the hours of a clock, for a question whose other arguments are as described, or are not.
func question(c api.Clock, described bool) (hours, api.Errno) {
	if e := Check(c); e != api.OK {
		return hours{}, e
	}
	if !described {
		return hours{}, api.ErrArg
	}
	h := open(c)
	if h.many() == 0 {
		return hours{}, api.ErrNone
	}
	return h, api.OK
}

// open returns the hours of a valid clock.
func open(c api.Clock) hours {
	h := hours{Clock: c}
	now := courses{{}: 1}
	for i := range h.Hours {
		now = h.pass(i, now, func(a, b int) int { return a + b })
		for one := range now {
			if h.wrong(i, one) > 0 {
				delete(now, one)
			}
		}
		h.can = append(h.can, now)
	}
	for i := h.Hours - 2; i >= 0; i-- {
		h.dropEnds(i)
	}
	return h
}

// pass returns the courses that an hour can have after those of the hour before it, wrong strikes or not. The numbers of
// all that lead to a course are joined.
func (h hours) pass(i int, before courses, join func(a, b int) int) courses {
	now := courses{}
	for one, n := range before {
		for next := range h.follow(i, one) {
			if joined, led := now[next]; led {
				now[next] = join(joined, n)
			} else {
				now[next] = n
			}
		}
	}
	return now
}

// follow yields the courses that an hour can have if the hour before it has a certain one, from the least gain up.
func (h hours) follow(i int, before course) iter.Seq[course] {
	gains := h.Drift
	if i > 0 {
		gains = api.Span{Low: max(gains.Low, before.gain-h.Step), High: min(gains.High, before.gain+h.Step)}
	}
	return func(yield func(course) bool) {
		for gain := gains.Low; gain <= gains.High; gain++ {
			if !yield(course{before.before + before.gain, gain}) {
				return
			}
		}
	}
}

// dropEnds deletes the courses of an hour after which the next hour cannot have any.
func (h hours) dropEnds(i int) {
search:
	for one := range h.can[i] {
		for next := range h.follow(i+1, one) {
			if _, ok := h.can[i+1][next]; ok {
				continue search
			}
		}
		delete(h.can[i], one)
	}
}

// wrong returns the number of strikes in an hour that are not true if it has a course.
func (h hours) wrong(i int, one course) int {
	wrong := 0
	for _, s := range h.Strikes {
		if hourOf(s.At) == i && !isIn(h.shows(s.At, one), s.Shown) {
			wrong++
		}
	}
	return wrong
}

// hourOf returns the hour to which a real time belongs. The end of an hour belongs to this hour, as there is none after
// the last one.
func hourOf(t int) int { return max(0, t-1) / hour }

// shows returns what a clock shows at a real time whose hour has a course.
func (h hours) shows(t int, one course) int {
	i := hourOf(t)
	return h.Shown + i*hour + one.before + (t-i*hour)*(hour+one.gain)/hour
}

// many returns the number of truths.
func (h hours) many() int {
	many := 0
	for _, ways := range h.can[h.Hours-1] {
		many += ways
	}
	return many
}

// reading returns the least and the greatest number that a clock with a truth can show at a real time.
func (h hours) reading(t int) api.Span {
	return bounds(h.can[hourOf(t)], func(one course) int { return h.shows(t, one) })
}

// least returns the truth with the least gain in the first hour, then in the second one, and so on.
func (h hours) least() []int {
	var gains []int
	var now course
	for i := range h.Hours {
		now = h.first(i, now)
		gains = append(gains, now.gain)
	}
	return gains
}

// first returns the course with the least gain that an hour can have in a truth if the hour before it has a certain one.
func (h hours) first(i int, before course) course {
	for next := range h.follow(i, before) {
		if _, ok := h.can[i][next]; ok {
			return next
		}
	}
	return course{}
}

// bounds returns the least and the greatest number that some courses have.
func bounds(can courses, number func(course) int) api.Span {
	all := api.Span{Low: math.MaxInt, High: math.MinInt}
	for one := range can {
		n := number(one)
		all.Low, all.High = min(all.Low, n), max(all.High, n)
	}
	return all
}

// fewest returns the least number of strikes that are not true, whatever a valid clock gains.
func fewest(c api.Clock) int {
	h := hours{Clock: c}
	least := courses{{}: 0}
	for i := range h.Hours {
		passed := h.pass(i, least, func(a, b int) int { return min(a, b) })
		least = courses{}
		for one, n := range passed {
			least[one] = n + h.wrong(i, one)
		}
	}
	fewest := len(h.Strikes)
	for _, n := range least {
		fewest = min(fewest, n)
	}
	return fewest
}
