package owners

import (
	"slices"

	"squeaker/api"
	"squeaker/rings"
)

func validStud(s api.Stud) bool {
	return rings.Check(s.Flock) == api.OK &&
		len(s.Firsts) == len(s.Flock.Birds) && each(s.Firsts, isMember) &&
		len(s.Deeds) <= api.MaxDeeds && each(s.Deeds, validDeed) &&
		len(s.Voided) <= api.MaxDeeds && each(s.Voided, isMember)
}

// validDeed tells whether a deed is valid. Its Id has the limit of members.
func validDeed(d api.Deed) bool {
	return each([]int{d.Id, d.From, d.To}, isMember) && isDay(d.Day) && isRing(d.Ring)
}

// clash tells whether two deeds with the same Id are not equal.
func clash(deeds []api.Deed) bool {
	first := map[int]api.Deed{}
	return !each(deeds, func(d api.Deed) bool {
		before, ok := first[d.Id]
		first[d.Id] = d
		return !ok || before == d
	})
}

// each tells whether all elements of a list are as they must be.
func each[T any](list []T, is func(T) bool) bool {
	return !slices.ContainsFunc(list, func(one T) bool { return !is(one) })
}

func isMember(n int) bool { return isUpTo(n, api.MaxMember) }

func isDay(n int) bool { return isUpTo(n, api.MaxDay) }

func isRing(n int) bool { return isUpTo(n, api.MaxRing) }

func isBird(s api.Stud, n int) bool { return isUpTo(n, len(s.Flock.Birds)-1) }

func isUpTo(n, last int) bool { return 0 <= n && n <= last }
