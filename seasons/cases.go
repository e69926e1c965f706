package seasons

import (
	"slices"

	"squeaker/api"
)

// cases has what is so by each outcome. The bits of an outcome's number tell which of the pending protests are upheld.
type cases[T any] []T

// outcomes returns the tallies of a valid season.
func outcomes(s api.Season) cases[tally] {
	var all cases[tally]
	for n := range 1 << len(pending(s)) {
		all = append(all, count(s, struck(s, n)))
	}
	return all
}

// pending returns the protests that are pending, by their numbers.
func pending(s api.Season) []int {
	var open []int
	for i, p := range s.Protests {
		if p.State == api.Pending {
			open = append(open, i)
		}
	}
	return open
}

// struck returns who is struck in which race by an outcome.
func struck(s api.Season, outcome int) map[entry]bool {
	struck := map[entry]bool{}
	for _, p := range s.Protests {
		struck[entryOf(p)] = p.State == api.Upheld
	}
	for i, protest := range pending(s) {
		struck[entryOf(s.Protests[protest])] = isUpheld(outcome, i)
	}
	return struck
}

// isUpheld tells whether a pending protest, by its number among them, is upheld by an outcome.
func isUpheld(outcome, i int) bool { return outcome>>i&1 == 1 }

// find returns what is found in each case.
func find[T, U any](all cases[T], in func(T) U) cases[U] {
	var found cases[U]
	for _, one := range all {
		found = append(found, in(one))
	}
	return found
}

// bounds returns the least and the greatest number of some cases.
func bounds(all cases[int]) api.Span { return api.Span{Low: slices.Min(all), High: slices.Max(all)} }

// values returns all numbers of some cases, ascending.
func values(all cases[int]) []int { return slices.Compact(slices.Sorted(slices.Values(all))) }
