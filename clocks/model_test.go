package clocks_test

import (
	"math/rand"

	"squeaker/api"
)

// sequences returns all gains within Drift, hour by hour, of which those of two hours that follow each other differ by
// at most Step.
func sequences(c api.Clock) [][]int {
	all := [][]int{nil}
	for i := range c.Hours {
		var longer [][]int
		for _, gains := range all {
			for gain := c.Drift.Low; gain <= c.Drift.High; gain++ {
				if i == 0 || max(gain-gains[i-1], gains[i-1]-gain) <= c.Step {
					longer = append(longer, append(gains[:i:i], gain))
				}
			}
		}
		all = longer
	}
	return all
}

// shows returns what a clock shows at a real time, as the chapter says, whole hours and the seconds of the one that has
// begun.
func shows(c api.Clock, gains []int, t int) int {
	number := c.Shown
	for i := range t / 3600 {
		number += 3600 + gains[i]
	}
	p := t % 3600
	if p == 0 {
		return number
	}
	product := p * (3600 + gains[t/3600])
	return number + (product-product%3600)/3600
}

// falseStrikes returns how many strikes are not true.
func falseStrikes(c api.Clock, gains []int) int {
	n := 0
	for _, s := range c.Strikes {
		if number := shows(c, gains, s.At); number < s.Shown.Low || number > s.Shown.High {
			n++
		}
	}
	return n
}

// isTruth tells whether gains are a truth of a clock.
func isTruth(c api.Clock, gains []int) bool {
	if len(gains) != c.Hours {
		return false
	}
	for i, gain := range gains {
		if gain < c.Drift.Low || gain > c.Drift.High || i > 0 && max(gain-gains[i-1], gains[i-1]-gain) > c.Step {
			return false
		}
	}
	return falseStrikes(c, gains) == 0
}

// A run is a truth of a clock, and what it shows at each real time.
type run struct {
	gains, shows []int
}

// runs returns all truths of a clock.
func runs(c api.Clock) []run {
	var out []run
	for _, gains := range sequences(c) {
		if falseStrikes(c, gains) > 0 {
			continue
		}
		one := run{gains: gains}
		for t := range c.Hours*3600 + 1 {
			one.shows = append(one.shows, shows(c, gains, t))
		}
		out = append(out, one)
	}
	return out
}

// moment returns the moment of a number, and whether there is one.
func (one run) moment(number int) (int, bool) {
	for t, shows := range one.shows {
		if shows >= number {
			return t, true
		}
	}
	return 0, false
}

// bounds returns the least and the greatest of some numbers, of which there are any.
func bounds(numbers []int) api.Span {
	s := span(numbers[0], numbers[0])
	for _, n := range numbers {
		s.Low, s.High = min(s.Low, n), max(s.High, n)
	}
	return s
}

// modelWhen returns the earliest and the latest moment of a number, and ErrNone if it has none in some truth, or there
// is no truth.
func modelWhen(all []run, number int) (api.Span, api.Errno) {
	var moments []int
	for _, one := range all {
		t, ok := one.moment(number)
		if !ok {
			return api.Span{}, api.ErrNone
		}
		moments = append(moments, t)
	}
	if len(moments) == 0 {
		return api.Span{}, api.ErrNone
	}
	return bounds(moments), api.OK
}

// homes returns all real times at which a bird can have come home.
func homes(all []run, x api.Clocking) []int {
	var out []int
	for _, one := range all {
		moment, ok := one.moment(x.Shown)
		for t := moment; ok && t >= 0 && t >= moment-x.Late; t-- {
			out = append(out, t)
		}
	}
	return out
}

// most is how many gains a random clock can have at most, before the strikes.
const most = 60

// randomClock returns a valid clock with few gains, and strikes most of which are true.
func randomClock(r *rand.Rand) api.Clock {
	c := api.Clock{Hours: 1 + r.Intn(4), Shown: r.Intn(2) * r.Intn(80000)}
	for {
		c.Drift.Low = r.Intn(19) - 9
		c.Drift.High = min(9, c.Drift.Low+r.Intn(8))
		c.Step = r.Intn(5)
		if len(sequences(c)) <= most {
			break
		}
	}
	for range r.Intn(4) {
		c.Strikes = append(c.Strikes, randomStrike(r, c))
	}
	return c
}

// randomStrike returns a strike of a clock, at the end of an hour or near it more often than elsewhere.
func randomStrike(r *rand.Rand, c api.Clock) api.Strike {
	all := sequences(c)
	t := randomTime(r, c)
	number := shows(c, all[r.Intn(len(all))], t)
	low := max(0, number-r.Intn(4)+r.Intn(2))
	return strike(t, low, low+r.Intn(5))
}

// randomTime returns a real time of a clock.
func randomTime(r *rand.Rand, c api.Clock) int {
	t := r.Intn(c.Hours + 1)
	switch r.Intn(4) {
	case 0:
		return t * 3600
	case 1:
		return max(0, min(c.Hours*3600, t*3600+r.Intn(7)-3))
	}
	return r.Intn(c.Hours*3600 + 1)
}

// randomNumber returns a number near one that a clock can show.
func randomNumber(r *rand.Rand, c api.Clock) int {
	all := sequences(c)
	return max(0, shows(c, all[r.Intn(len(all))], randomTime(r, c))+r.Intn(5)-2)
}

// randomClocking returns a clocking of a clock.
func randomClocking(r *rand.Rand, c api.Clock) api.Clocking {
	late := []int{0, 1, 1 + r.Intn(20), r.Intn(api.MaxLate + 1), api.MaxLate}
	return clocking(randomNumber(r, c), late[r.Intn(len(late))])
}
