package lofts

import "squeaker/api"

func validMap(m api.Map) bool {
	for _, east := range m.East {
		if !isScale(east) {
			return false
		}
	}
	return isIn(len(m.East), api.Span{Low: 1, High: api.MaxRows}) &&
		isIn(m.Columns, api.Span{Low: 1, High: api.MaxColumns}) &&
		isScale(m.North) &&
		isIn(m.Lofts, api.Span{Low: 1, High: api.MaxLofts}) &&
		isIn(m.Wrong, api.Span{High: api.MaxWrong})
}

func isScale(n int) bool { return isIn(n, api.Span{Low: 1, High: api.MaxScale}) }

// validSurvey tells whether a survey of a valid map is valid.
func validSurvey(m api.Map, s api.Survey) bool {
	if !isLoft(m, s.Loft) {
		return false
	}
	switch s.Kind {
	case api.Box:
		return isSpan(s.X, m.Columns-1) && isSpan(s.Y, len(m.East)-1) && s.At == api.Point{} && s.Dist == api.Span{}
	case api.Tape:
		return s.X == api.Span{} && s.Y == api.Span{} && isPlace(m, s.At) && isSpan(s.Dist, api.MaxLength)
	}
	return false
}

// isSpan tells whether a span has numbers from 0 to the last one, in their order.
func isSpan(s api.Span, last int) bool { return 0 <= s.Low && s.Low <= s.High && s.High <= last }

func isLoft(m api.Map, n int) bool { return isIn(n, api.Span{High: m.Lofts - 1}) }

func isPlace(m api.Map, p api.Point) bool {
	return isIn(p.X, api.Span{High: m.Columns - 1}) && isIn(p.Y, api.Span{High: len(m.East) - 1})
}

func isIn(n int, s api.Span) bool { return s.Low <= n && n <= s.High }
