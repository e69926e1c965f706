package velocity

import (
	"slices"

	"squeaker/api"
	"squeaker/clocks"
	"squeaker/lofts"
)

// lastSecond is the greatest second of nights, and of what was judged. No bird comes home later.
const lastSecond = 2 * api.MaxSecond

// checkDerby returns the first error of a derby, whatever its homings say.
func checkDerby(d api.Derby) api.Errno {
	if e := lofts.Check(d.Map); e != api.OK {
		return e
	}
	for _, t := range d.Timers {
		if e := clocks.Check(t.Clock); e != api.OK {
			return e
		}
	}
	if !validDerby(d) {
		return api.ErrDerby
	}
	return api.OK
}

// validDerby tells whether a derby is valid. Its map and its clocks need not be.
func validDerby(d api.Derby) bool {
	return isLoft(d, d.Point) &&
		slices.Contains([]int{api.Down, api.Near, api.Up}, d.Rule) &&
		isSpan(d.Start, api.Span{High: api.MaxSecond}) && d.Start.High-d.Start.Low <= api.MaxWatch &&
		validNights(d.Nights) &&
		len(d.Timers) <= api.MaxTimers &&
		!slices.ContainsFunc(d.Timers, func(t api.Timer) bool { return !isUpTo(t.Set, api.MaxSecond) }) &&
		validHomings(d)
}

func validNights(nights []api.Span) bool {
	if len(nights) > api.MaxNights {
		return false
	}
	first := 0
	for _, night := range nights {
		if !isSpan(night, api.Span{Low: first, High: lastSecond}) {
			return false
		}
		first = night.High + 1
	}
	return true
}

func validHomings(d api.Derby) bool {
	if len(d.Homings) > api.MaxHomings {
		return false
	}
	for i, h := range d.Homings {
		again := slices.ContainsFunc(d.Homings[:i], func(other api.Homing) bool { return other.Bird == h.Bird })
		if again || !validHoming(d, h) {
			return false
		}
	}
	return true
}

func validHoming(d api.Derby, h api.Homing) bool {
	return isUpTo(h.Bird, api.MaxMember) && isLoft(d, h.Loft) && isUpTo(h.Timer, len(d.Timers)-1) &&
		isSpan(h.Judged, api.Span{High: lastSecond})
}

// isLoft tells whether a number is that of a loft. The number of lofts can be any, as the map need not be valid.
func isLoft(d api.Derby, n int) bool { return 0 <= n && n < d.Map.Lofts }

func isHoming(d api.Derby, n int) bool { return isUpTo(n, len(d.Homings)-1) }

// both returns the numbers of two spans. Low is above High if there are none.
func both(a, b api.Span) api.Span {
	return api.Span{Low: max(a.Low, b.Low), High: min(a.High, b.High)}
}

func isNone(s api.Span) bool { return s.Low > s.High }

// isSpan tells whether a span has numbers within limits, in their order.
func isSpan(s, limits api.Span) bool {
	return limits.Low <= s.Low && s.Low <= s.High && s.High <= limits.High
}

func isUpTo(n, last int) bool { return 0 <= n && n <= last }
