package liberate

import (
	"squeaker/api"
	"squeaker/lofts"
)

// A stop is a place of a way, and how many minutes after birds were set free they can be there.
type stop struct {
	api.Point
	after api.Span
}

// passed returns the minutes at which birds can be at a stop, if they are set free at a minute.
func (s stop) passed(minute int) api.Span {
	return api.Span{Low: minute + s.after.Low, High: minute + s.after.High}
}

// stopsTo returns the stops of the way to a home of a valid release.
func stopsTo(r api.Release, home api.Point) []stop {
	places := placesBetween(r.Base, home)
	var stops []stop
	far := 0
	for i, p := range places {
		// There is no place after the home: that it follows itself leaves it as far as it is.
		next := places[min(i+1, len(places)-1)]
		// Both are places of a valid map, so that there is no error.
		step, _ := lofts.Length(r.Map, p, next, api.Down)
		stops = append(stops, stop{p, api.Span{Low: far / r.Speed.High, High: roundedUp(far+step, r.Speed.Low)}})
		far += step
	}
	return stops
}

// placesBetween returns the places of the way from a place to another one, both included.
func placesBetween(from, to api.Point) []api.Point {
	right, below := to.X-from.X, to.Y-from.Y
	steps := max(right, -right, below, -below)
	places := []api.Point{from}
	for k := range steps {
		places = append(places, api.Point{X: between(from.X, to.X, k+1, steps), Y: between(from.Y, to.Y, k+1, steps)})
	}
	return places
}

// between returns the number after k of n equal steps from a number to another one, neither below 0, rounded to the
// nearest one, halves up.
func between(from, to, k, n int) int {
	// A sum of parts of both numbers is not below 0, as one with their difference can be, so that the quotient is rounded
	// down.
	nth := from*(n-k) + to*k
	return (2*nth + n) / (2 * n)
}

// roundedUp returns a quotient of numbers that are not below 0, rounded up.
func roundedUp(a, b int) int { return (a + b - 1) / b }
