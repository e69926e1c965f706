package baskets

import (
	"slices"

	"squeaker/api"
)

func validConvoy(c api.Convoy) bool {
	return 1 <= c.Baskets && c.Baskets <= api.MaxBaskets &&
		isUpTo(c.Birds, api.MaxRaced) && isMinute(c.End) &&
		len(c.Acts) <= api.MaxActs && each(c.Acts, func(a api.Act) bool { return validAct(c, a) }) &&
		len(c.Duties) <= api.MaxDuties && each(c.Duties, func(d api.Duty) bool { return validDuty(c, d) })
}

// validAct tells whether an act is valid in a convoy. Its Id has the limit of members.
func validAct(c api.Convoy, a api.Act) bool {
	return isMember(a.Id) && isUpTo(a.At, c.End) && isBasket(c, a.Basket) && validFields(c, a)
}

// validFields tells whether the fields that the kind of an act names are valid, and the others are 0.
func validFields(c api.Convoy, a api.Act) bool {
	noTeam := a.First == 0 && a.Second == 0
	switch a.Kind {
	case api.MarkIn:
		return isBird(c, a.Bird) && isMember(a.First) && isMember(a.Second) && a.First != a.Second && a.Seal == 0
	case api.TakeOut:
		return isBird(c, a.Bird) && noTeam && a.Seal == 0
	case api.SealUp:
		return a.Bird == 0 && noTeam && a.Seal > 0 && isUpTo(a.Seal, api.MaxSeal)
	case api.LookAt, api.Unseal:
		return a.Bird == 0 && noTeam && isUpTo(a.Seal, api.MaxSeal)
	}
	return false
}

// validDuty tells whether a duty is valid in a convoy. It can last longer than the convoy.
func validDuty(c api.Convoy, d api.Duty) bool {
	return isMember(d.Member) && isBasket(c, d.Basket) && isMinute(d.To) && isUpTo(d.From, d.To)
}

// clash tells whether two acts with the same Id are not equal.
func clash(acts []api.Act) bool {
	return slices.ContainsFunc(acts, func(a api.Act) bool {
		return slices.ContainsFunc(acts, func(b api.Act) bool { return a.Id == b.Id && a != b })
	})
}

// each tells whether all elements of a list are as they must be.
func each[T any](list []T, is func(T) bool) bool {
	return !slices.ContainsFunc(list, func(one T) bool { return !is(one) })
}

func isMember(n int) bool { return isUpTo(n, api.MaxMember) }

func isMinute(n int) bool { return isUpTo(n, api.MaxMinute) }

func isBasket(c api.Convoy, n int) bool { return isUpTo(n, c.Baskets-1) }

func isBird(c api.Convoy, n int) bool { return isUpTo(n, c.Birds-1) }

func isUpTo(n, last int) bool { return 0 <= n && n <= last }
