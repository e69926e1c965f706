package seasons_test

import (
	"math/rand"
	"slices"

	"squeaker/api"
)

// copied returns an equal season that shares no memory.
func copied(s api.Season) api.Season {
	s.Owners, s.Races, s.Points, s.Protests = slices.Clone(s.Owners), slices.Clone(s.Races), slices.Clone(s.Points), slices.Clone(s.Protests)
	for i := range s.Races {
		s.Races[i].Order = slices.Clone(s.Races[i].Order)
	}
	return s
}

// settled returns a season after a protest of it was decided.
func settled(s api.Season, i, state int) api.Season {
	s = copied(s)
	s.Protests[i].State = state
	return s
}

// ends returns the season after all its protests were decided, once for each way.
func ends(s api.Season) []api.Season {
	i := slices.IndexFunc(s.Protests, func(p api.Protest) bool { return p.State == api.Pending })
	if i < 0 {
		return []api.Season{s}
	}
	return append(ends(settled(s, i, api.Refused)), ends(settled(s, i, api.Upheld))...)
}

// upheldIn returns how many protests of a season are upheld.
func upheldIn(s api.Season) int {
	n := 0
	for _, p := range s.Protests {
		if p.State == api.Upheld {
			n++
		}
	}
	return n
}

// The functions from here on are about a season of which no protest is pending.

// placeIn returns the place of a bird in the list of a race, 0 if it is not in it.
func placeIn(s api.Season, race, bird int) int {
	place := 0
	for _, other := range s.Races[race].Order {
		if slices.Contains(s.Protests, protest(race, other, api.Upheld)) {
			continue
		}
		place++
		if other == bird {
			return place
		}
	}
	return 0
}

// pointsIn returns what a bird scores in a race.
func pointsIn(s api.Season, race, bird int) int {
	if place := placeIn(s, race, bird); place > 0 && place <= len(s.Points) {
		return s.Points[place-1]
	}
	return 0
}

// bestOf returns the greatest sum of at most so many numbers, as all ways of leaving some out tell.
func bestOf(numbers []int, most int) int {
	if len(numbers) == 0 || most == 0 {
		return 0
	}
	return max(bestOf(numbers[1:], most), numbers[0]+bestOf(numbers[1:], most-1))
}

// A record is a score, and in how many races one was first.
type record struct{ score, firsts int }

func birdRecord(s api.Season, bird int) record {
	var r record
	var points []int
	for race := range s.Races {
		points = append(points, pointsIn(s, race, bird))
		if placeIn(s, race, bird) == 1 {
			r.firsts++
		}
	}
	r.score = bestOf(points, s.Best)
	return r
}

func memberRecord(s api.Season, member int) record {
	var r record
	var sums []int
	for race := range s.Races {
		var points []int
		for bird, owner := range s.Owners {
			if owner != member {
				continue
			}
			points = append(points, pointsIn(s, race, bird))
			if placeIn(s, race, bird) == 1 {
				r.firsts++
			}
		}
		sums = append(sums, bestOf(points, s.Team))
	}
	r.score = bestOf(sums, s.Best)
	return r
}

// isBefore tells whether who has one number and record is before who has another one.
func isBefore(n int, r record, otherN int, other record) bool {
	if r.score != other.score {
		return r.score > other.score
	}
	if r.firsts != other.firsts {
		return r.firsts > other.firsts
	}
	return n < otherN
}

// rankIn returns one more than the number of those who are before one of them.
func rankIn(n int, records map[int]record) int {
	rank := 1
	for other, r := range records {
		if isBefore(other, r, n, records[n]) {
			rank++
		}
	}
	return rank
}

// firstIn returns who is before all others, -1 if nobody is.
func firstIn(records map[int]record) int {
	for n := range records {
		if rankIn(n, records) == 1 {
			return n
		}
	}
	return -1
}

func birdRecords(s api.Season) map[int]record {
	out := map[int]record{}
	for bird := range s.Owners {
		out[bird] = birdRecord(s, bird)
	}
	return out
}

func memberRecords(s api.Season) map[int]record {
	out := map[int]record{}
	for _, member := range s.Owners {
		out[member] = memberRecord(s, member)
	}
	return out
}

// An end is a season of which no protest is pending, and all records in it.
type end struct {
	api.Season
	birds, members map[int]record
	ace, champion  int
}

// endsOf returns all ends of a season.
func endsOf(s api.Season) []end {
	var out []end
	for _, x := range ends(s) {
		e := end{Season: x, birds: birdRecords(x), members: memberRecords(x)}
		e.ace, e.champion = firstIn(e.birds), firstIn(e.members)
		out = append(out, e)
	}
	return out
}

// spanOf returns the least and the greatest of some numbers.
func spanOf(numbers []int) api.Span { return span(slices.Min(numbers), slices.Max(numbers)) }

// setOf returns some numbers, each once, ascending.
func setOf(numbers []int) []int { return slices.Compact(slices.Sorted(slices.Values(numbers))) }

// overEnds returns a number of each end.
func overEnds(ends []end, number func(e end) int) []int {
	var out []int
	for _, e := range ends {
		out = append(out, number(e))
	}
	return out
}

// modelMatters returns the protests on which the champion depends: two ends that differ in one of them alone have
// different champions.
func modelMatters(s api.Season, all []end) []int {
	var out []int
	for i, p := range s.Protests {
		if p.State == api.Pending && slices.ContainsFunc(all, func(e end) bool { return dependsOn(all, e, i) }) {
			out = append(out, i)
		}
	}
	return out
}

func dependsOn(all []end, e end, i int) bool {
	other := settled(e.Season, i, api.Upheld)
	return slices.ContainsFunc(all, func(x end) bool {
		return slices.Equal(x.Protests, other.Protests) && x.champion != e.champion
	})
}

// randomSeason returns a valid season, in which many scores are the same.
func randomSeason(r *rand.Rand) api.Season {
	s := api.Season{Points: randomPoints(r), Best: 1 + r.Intn(1+r.Intn(api.MaxRaces)), Team: 1 + r.Intn(1+r.Intn(api.MaxRaces))}
	members := r.Perm(api.MaxMember + 1)[:1+r.Intn(5)]
	birds := r.Intn(api.MaxRaced + 1)
	for range birds {
		s.Owners = append(s.Owners, members[r.Intn(len(members))])
	}
	for range r.Intn(6) {
		came := r.Intn(birds + 1)
		if r.Intn(2) == 0 {
			came = birds
		}
		s.Races = append(s.Races, api.Contest{Order: r.Perm(birds)[:came]})
	}
	s.Protests = randomProtests(r, s, r.Intn(8))
	return s
}

// randomPoints returns points, often few, or the same.
func randomPoints(r *rand.Rand) []int {
	var out []int
	most := r.Intn(12)
	for range 1 + r.Intn(1+r.Intn(api.MaxPoints)) {
		out = append(out, r.Intn(most+1))
	}
	slices.Sort(out)
	slices.Reverse(out)
	return out
}

// randomProtests returns protests against birds of a season, at most so many, most of them pending.
func randomProtests(r *rand.Rand, s api.Season, most int) []api.Protest {
	var out []api.Protest
	for race, contest := range s.Races {
		for i, bird := range contest.Order {
			if r.Intn(i+2) == 0 {
				out = append(out, protest(race, bird, []int{api.Pending, api.Pending, api.Pending, api.Upheld, api.Refused}[r.Intn(5)]))
			}
		}
	}
	r.Shuffle(len(out), func(i, j int) { out[i], out[j] = out[j], out[i] })
	return out[:min(len(out), most)]
}
