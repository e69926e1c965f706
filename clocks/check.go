package clocks

import (
	"slices"

	"squeaker/api"
)

func validClock(c api.Clock) bool {
	return isIn(c.Hours, api.Span{Low: 1, High: api.MaxHours}) &&
		isShown(c.Shown) &&
		isSpan(c.Drift, api.Span{Low: -api.MaxDrift, High: api.MaxDrift}) &&
		isIn(c.Step, api.Span{High: api.MaxStep}) &&
		len(c.Strikes) <= api.MaxStrikes &&
		!slices.ContainsFunc(c.Strikes, func(s api.Strike) bool { return !validStrike(c, s) })
}

// validStrike tells whether a strike is valid for a clock whose hours are.
func validStrike(c api.Clock, s api.Strike) bool {
	return isIn(s.At, api.Span{High: c.Hours * hour}) && isSpan(s.Shown, api.Span{High: api.MaxShown})
}

// checkClocking returns ErrClocking unless a clocking is valid.
func checkClocking(x api.Clocking) api.Errno {
	if !isShown(x.Shown) || !isIn(x.Late, api.Span{High: api.MaxLate}) {
		return api.ErrClocking
	}
	return api.OK
}

func isShown(n int) bool { return isIn(n, api.Span{High: api.MaxShown}) }

// isSpan tells whether a span has numbers within limits, in their order.
func isSpan(s, limits api.Span) bool {
	return limits.Low <= s.Low && s.Low <= s.High && s.High <= limits.High
}

func isIn(n int, s api.Span) bool { return s.Low <= n && n <= s.High }
