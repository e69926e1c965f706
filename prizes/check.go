package prizes

import (
	"slices"

	"squeaker/api"
)

func validRace(r api.Race) bool {
	return len(r.Pools) <= api.MaxPools && each(r.Pools, validPool) &&
		validRacers(r) &&
		len(r.Protests) <= api.MaxProtests && isAscending(r.Protests) &&
		each(r.Protests, func(bird int) bool { return hasBird(r.Racers, bird) })
}

func validPool(p api.Pool) bool {
	return isIn(p.Stake, 0, api.MaxStake) && isIn(p.Cut, 0, whole) && validKind(p)
}

func validKind(p api.Pool) bool {
	switch p.Kind {
	case api.ByTable:
		return validTable(p.Table) && p.Quota == 0
	case api.ByQuota:
		return len(p.Table) == 0 && isIn(p.Quota, 1, api.MaxQuota)
	case api.ToFirst:
		return len(p.Table) == 0 && p.Quota == 0
	}
	return false
}

func validTable(table []int) bool {
	return isIn(len(table), 1, api.MaxTable) &&
		each(table, func(n int) bool { return isIn(n, 0, whole) }) &&
		sum(table) <= whole
}

func validRacers(r api.Race) bool {
	if len(r.Racers) > api.MaxRacers {
		return false
	}
	for i, x := range r.Racers {
		if hasBird(r.Racers[:i], x.Bird) || !validRacer(r, x) {
			return false
		}
	}
	return true
}

func validRacer(r api.Race, x api.Racer) bool {
	return isIn(x.Bird, 0, api.MaxRing) && isIn(x.Owner, 0, api.MaxOwners) &&
		validRank(x) &&
		isAscending(x.Pools) &&
		each(x.Pools, func(pool int) bool { return isPool(r, pool) })
}

// validRank tells whether a bird is home on a day, or has neither a rank nor a day.
func validRank(x api.Racer) bool {
	if x.Day == notHome {
		return x.Rank == 0
	}
	return isIn(x.Day, firstDay, secondDay) && isIn(x.Rank, 1, api.MaxRacers)
}

func hasBird(racers []api.Racer, bird int) bool {
	return slices.ContainsFunc(racers, func(x api.Racer) bool { return x.Bird == bird })
}

func isPool(r api.Race, pool int) bool { return isIn(pool, 0, len(r.Pools)-1) }

// isAscending tells whether some numbers are strictly ascending.
func isAscending(list []int) bool {
	for i := range list {
		if i > 0 && list[i] <= list[i-1] {
			return false
		}
	}
	return true
}

// each tells whether all elements of a list are as they must be.
func each[T any](list []T, is func(T) bool) bool {
	return !slices.ContainsFunc(list, func(one T) bool { return !is(one) })
}

func isIn(n, low, high int) bool { return low <= n && n <= high }
