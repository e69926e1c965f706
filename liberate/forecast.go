package liberate

import (
	"iter"

	"squeaker/api"
)

// hourLong is the number of minutes of an hour.
const hourLong = 60

// A forecast is a valid release whose fronts are valid, too, the stops of the ways to its homes, and what is known of the
// weather at all places in all hours.
type forecast struct {
	api.Release
	ways    [][]stop
	weather map[spot]sky
}

// A spot is a place in an hour.
type spot struct {
	api.Point
	hour int
}

// question returns the forecast of a release, for a question whose other arguments are as described, or are not.
func question(r api.Release, described bool) (*forecast, api.Errno) {
	if e := checkQuestion(r, described); e != api.OK {
		return nil, e
	}
	f := &forecast{Release: r, weather: map[spot]sky{}}
	if !f.tellWeather() {
		return nil, api.ErrNone
	}
	for home := range len(f.Homes) {
		f.ways = append(f.ways, stopsTo(r, f.Homes[home]))
	}
	return f, api.OK
}

// tellWeather puts down what is known of the weather at all places in all hours. It returns false if the fronts
// contradict each other.
func (f *forecast) tellWeather() bool {
	for y := range f.Map.East {
		for x := range f.Map.Columns {
			for hour := range f.Hours {
				s := spot{api.Point{X: x, Y: y}, hour}
				known := f.told(s)
				if known.isEmpty() {
					return false
				}
				f.weather[s] = known
			}
		}
	}
	return true
}

// told returns the weather at a spot that no front excludes.
func (f *forecast) told(s spot) sky {
	known := anySky()
	for _, one := range f.Fronts {
		if isIn(s.hour, one.Hours) && isIn(s.X, one.X) && isIn(s.Y, one.Y) {
			known = known.and(skyOf(one.Sky))
		}
	}
	return known
}

// skyAt returns what is known of the weather at a spot, also after the last hour.
func (f *forecast) skyAt(s spot) sky {
	if known, ok := f.weather[s]; ok {
		return known
	}
	return anySky()
}

// hours yields the hours of some minutes. Those after the last hour are alike, of them it yields the first one alone.
func (f *forecast) hours(minutes api.Span) iter.Seq[int] {
	return func(yield func(int) bool) {
		for hour := minutes.Low / hourLong; hour <= minutes.High/hourLong; hour++ {
			if !yield(hour) || hour >= f.Hours {
				return
			}
		}
	}
}

// block returns the first step of the way to a home at which the weather is not surely inside, if birds are set free at a
// minute, and whether there is one.
func (f *forecast) block(home, minute int) (b api.Block, blocked bool) {
	limits := limitsOf(f.Limits)
	for step, s := range f.ways[home] {
		passed := s.passed(minute)
		for hour := range f.hours(passed) {
			if !f.skyAt(spot{s.Point, hour}).isInside(limits) {
				return api.Block{Home: home, Step: step, Minute: max(passed.Low, hour*hourLong)}, true
			}
		}
	}
	return api.Block{}, false
}

// safe tells whether the weather is surely inside on the way to a home, surely outside, or neither.
func (f *forecast) safe(home, minute int) int {
	if _, blocked := f.block(home, minute); !blocked {
		return api.SurelyInside
	}
	for _, s := range f.ways[home] {
		if f.isOutside(s.Point, s.passed(minute)) {
			return api.SurelyOutside
		}
	}
	return api.OpenSky
}

// isOutside tells whether the weather at a place is surely outside in all hours of some minutes.
func (f *forecast) isOutside(place api.Point, minutes api.Span) bool {
	limits := limitsOf(f.Limits)
	for hour := range f.hours(minutes) {
		if !f.skyAt(spot{place, hour}).isOutside(limits) {
			return false
		}
	}
	return true
}

// mayFly tells whether the convoy may be set free at a minute.
func (f *forecast) mayFly(minute int) bool {
	for home := range len(f.ways) {
		last := f.ways[home][len(f.ways[home])-1]
		if last.passed(minute).High > f.Dark {
			return false
		}
		if _, blocked := f.block(home, minute); blocked {
			return false
		}
	}
	return true
}
