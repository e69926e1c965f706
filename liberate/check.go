package liberate

import (
	"slices"

	"squeaker/api"
	"squeaker/lofts"
)

// checkQuestion returns the first error of a question about a release, whose other arguments are as described, or are
// not.
func checkQuestion(r api.Release, described bool) api.Errno {
	if e := Check(r); e != api.OK {
		return e
	}
	if !described {
		return api.ErrArg
	}
	return api.OK
}

func validRelease(r api.Release) bool {
	return lofts.Check(r.Map) == api.OK &&
		isPlace(r.Map, r.Base) &&
		len(r.Homes) <= api.MaxHomes &&
		!slices.ContainsFunc(r.Homes, func(home api.Point) bool { return !isPlace(r.Map, home) }) &&
		isSpan(r.Speed, api.Span{Low: 1, High: api.MaxSpeed}) &&
		isUpTo(r.Limits.Wind, api.MaxSky) &&
		isUpTo(r.Limits.Sight, api.MaxSky) &&
		isUpTo(r.Limits.Heat, api.MaxSky) &&
		isIn(r.Hours, api.Span{Low: 1, High: api.MaxSkyHours}) &&
		isMinute(r.Dark)
}

// validFront tells whether a front of a valid release is valid.
func validFront(r api.Release, f api.Front) bool {
	return isSpan(f.Hours, api.Span{High: r.Hours - 1}) &&
		isSpan(f.X, api.Span{High: r.Map.Columns - 1}) &&
		isSpan(f.Y, api.Span{High: len(r.Map.East) - 1}) &&
		!slices.ContainsFunc([]api.Span{f.Sky.Wind, f.Sky.Sight, f.Sky.Heat}, func(s api.Span) bool {
			return !isSpan(s, api.Span{High: api.MaxSky})
		})
}

func validWatches(l []api.Span) bool {
	return isIn(len(l), api.Span{Low: 1, High: api.MaxWatches}) &&
		!slices.ContainsFunc(l, func(s api.Span) bool { return !isSpan(s, api.Span{High: api.MaxSkyTime}) })
}

func isPlace(m api.Map, p api.Point) bool {
	return isUpTo(p.X, m.Columns-1) && isUpTo(p.Y, len(m.East)-1)
}

func isHome(r api.Release, n int) bool { return isUpTo(n, len(r.Homes)-1) }

func isMinute(n int) bool { return isUpTo(n, api.MaxSkyTime) }

// isSpan tells whether a span has numbers within limits, in their order.
func isSpan(s, limits api.Span) bool {
	return limits.Low <= s.Low && s.Low <= s.High && s.High <= limits.High
}

func isUpTo(n, last int) bool { return isIn(n, api.Span{High: last}) }

func isIn(n int, s api.Span) bool { return s.Low <= n && n <= s.High }
