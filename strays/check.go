package strays

import (
	"slices"

	"squeaker/api"
)

const (
	// ringDigits is the number of digits of a ring.
	ringDigits = 4
	// unread stands for a digit that could not be read.
	unread = -1
	// unseen stands for a sex that was not seen.
	unseen = 0
)

// validPound tells whether a pound with a valid stud is valid.
func validPound(p api.Pound) bool {
	return isIn(p.Places, 1, api.MaxPlaces) && isIn(p.Apart, 0, api.MaxApart) &&
		len(p.Finds) <= api.MaxFinds && each(p.Finds, func(f api.Find) bool { return validFind(p, f) }) &&
		len(p.Homes) <= api.MaxAbodes && validHomes(p) &&
		len(p.Carriers) <= api.MaxCarriers && each(p.Carriers, func(c api.Carrier) bool { return validCarrier(p, c) })
}

// validFind tells whether a find is valid in a pound. Its Id has the limit of members.
func validFind(p api.Pound, f api.Find) bool {
	return isMember(f.Id) && isDay(f.Day) && isPlace(p, f.Place) &&
		len(f.Digits) == ringDigits && each(f.Digits, func(d int) bool { return d == unread || isIn(d, 0, 9) }) &&
		(f.Sex == unseen || f.Sex == api.Cock || f.Sex == api.Hen)
}

// validHomes tells whether all homes are valid in a pound, at most one of each member.
func validHomes(p api.Pound) bool {
	many := map[int]int{}
	return each(p.Homes, func(h api.Abode) bool {
		many[h.Member]++
		return isMember(h.Member) && isPlace(p, h.Place) && many[h.Member] == 1
	})
}

func validCarrier(p api.Pound, c api.Carrier) bool {
	return isPlace(p, c.From) && isPlace(p, c.To) && c.From != c.To &&
		isDay(c.First) && isIn(c.Every, 1, api.MaxEvery) && isIn(c.Takes, 1, api.MaxEvery)
}

// clash tells whether two finds with the same Id are not equal.
func clash(finds []api.Find) bool {
	first := map[int]api.Find{}
	return !each(finds, func(f api.Find) bool {
		before, ok := first[f.Id]
		first[f.Id] = f
		return !ok || sameFind(before, f)
	})
}

func sameFind(a, b api.Find) bool {
	return a.Id == b.Id && a.Day == b.Day && slices.Equal(a.Digits, b.Digits) && a.Sex == b.Sex && a.Place == b.Place
}

// each tells whether all elements of a list are as they must be.
func each[T any](list []T, is func(T) bool) bool {
	return !slices.ContainsFunc(list, func(one T) bool { return !is(one) })
}

func isMember(n int) bool { return isIn(n, 0, api.MaxMember) }

func isDay(n int) bool { return isIn(n, 0, api.MaxDay) }

func isPlace(p api.Pound, n int) bool { return isIn(n, 0, p.Places-1) }

func isIn(n, low, high int) bool { return low <= n && n <= high }
