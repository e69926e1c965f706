package seasons

import (
	"slices"

	"squeaker/api"
)

func validSeason(s api.Season) bool {
	return len(s.Owners) <= api.MaxRaced && each(s.Owners, isMember) &&
		len(s.Races) <= api.MaxRaces &&
		each(s.Races, func(c api.Contest) bool { return validOrder(s, c.Order) }) &&
		validPoints(s.Points) &&
		isIn(s.Best, 1, api.MaxRaces) && isIn(s.Team, 1, api.MaxRaces) &&
		validProtests(s)
}

// validOrder tells whether an order has birds of a season, none twice.
func validOrder(s api.Season, order []int) bool {
	for i, bird := range order {
		if !isBird(s, bird) || slices.Contains(order[:i], bird) {
			return false
		}
	}
	return true
}

// validPoints tells whether there are points, none more than those before.
func validPoints(points []int) bool {
	if !isIn(len(points), 1, api.MaxPoints) {
		return false
	}
	most := api.MaxScore
	for _, n := range points {
		if !isIn(n, 0, most) {
			return false
		}
		most = n
	}
	return true
}

func validProtests(s api.Season) bool {
	if len(s.Protests) > api.MaxOpen {
		return false
	}
	for i, p := range s.Protests {
		again := func(q api.Protest) bool { return entryOf(q) == entryOf(p) }
		if !validProtest(s, p) || slices.ContainsFunc(s.Protests[:i], again) {
			return false
		}
	}
	return true
}

func validProtest(s api.Season, p api.Protest) bool {
	return isRace(s, p.Race) && slices.Contains(s.Races[p.Race].Order, p.Bird) && isState(p.State)
}

func isState(n int) bool { return n == api.Pending || n == api.Upheld || n == api.Refused }

func isMember(n int) bool { return isIn(n, 0, api.MaxMember) }

func isBird(s api.Season, n int) bool { return isIn(n, 0, len(s.Owners)-1) }

func isRace(s api.Season, n int) bool { return isIn(n, 0, len(s.Races)-1) }

// each tells whether all elements of a list are as they must be.
func each[T any](list []T, is func(T) bool) bool {
	return !slices.ContainsFunc(list, func(one T) bool { return !is(one) })
}

func isIn(n, low, high int) bool { return low <= n && n <= high }
