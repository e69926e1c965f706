package secretary

import (
	"slices"

	"squeaker/api"
	"squeaker/clocks"
	"squeaker/owners"
	"squeaker/prizes"
)

func validClub(c api.Club) bool {
	return owners.Check(c.Stud) == api.OK &&
		len(c.Clocks) <= api.MaxClocks && !slices.ContainsFunc(c.Clocks, isWrong) &&
		prizes.Check(c.Race) == api.OK
}

// isWrong tells whether a clock is not valid.
func isWrong(c api.Clock) bool { return clocks.Check(c) != api.OK }

// copied returns a valid club that shares no memory with another one, and whose stud is merged.
func copied(c api.Club) api.Club {
	stud, _ := owners.Merge(c.Stud, nil, nil) // has no error, as the stud is valid
	return api.Club{
		Stud:   stud,
		Clocks: copies(c.Clocks, func(one *api.Clock) { one.Strikes = slices.Clone(one.Strikes) }),
		Race:   copiedRace(c.Race),
	}
}

func copiedRace(r api.Race) api.Race {
	return api.Race{
		Racers:   copies(r.Racers, func(one *api.Racer) { one.Pools = slices.Clone(one.Pools) }),
		Pools:    copies(r.Pools, func(one *api.Pool) { one.Table = slices.Clone(one.Table) }),
		Protests: slices.Clone(r.Protests),
	}
}

// copies returns copies of the elements of a list, each of which is given memory of its own.
func copies[T any](list []T, give func(one *T)) []T {
	list = slices.Clone(list)
	for i := range list {
		give(&list[i])
	}
	return list
}
