package liberate

import (
	"slices"

	"squeaker/api"
)

// A sky is the spans of the wind, the sight and the heat, in this order.
type sky [3]api.Span

func skyOf(s api.Sky) sky { return sky{s.Wind, s.Sight, s.Heat} }

// anySky returns all the weather that there can be.
func anySky() sky { return sky{{High: api.MaxSky}, {High: api.MaxSky}, {High: api.MaxSky}} }

// limitsOf returns all the weather in which birds may fly.
func limitsOf(l api.Limits) sky {
	return sky{{High: l.Wind}, {Low: l.Sight, High: api.MaxSky}, {High: l.Heat}}
}

// and returns what is in both of two skies.
func (s sky) and(other sky) sky {
	for i := range s {
		s[i] = both(s[i], other[i])
	}
	return s
}

// isEmpty tells whether there is no such weather.
func (s sky) isEmpty() bool { return slices.ContainsFunc(s[:], isNone) }

// isInside tells whether all the weather is within limits.
func (s sky) isInside(limits sky) bool { return s.and(limits) == s }

// isOutside tells whether no weather is within limits, by one of its numbers alone.
func (s sky) isOutside(limits sky) bool { return s.and(limits).isEmpty() }

// both returns the numbers of two spans. Low is above High if there are none.
func both(a, b api.Span) api.Span {
	return api.Span{Low: max(a.Low, b.Low), High: min(a.High, b.High)}
}

func isNone(s api.Span) bool { return s.Low > s.High }
