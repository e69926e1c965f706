package seasons

import (
	"cmp"
	"slices"

	"squeaker/api"
)

// nobody is the number of who is before all others if there are none.
const nobody = -1

// An entry is a bird in a race.
type entry struct{ race, bird int }

func entryOf(p api.Protest) entry { return entry{p.Race, p.Bird} }

// A tally is a valid season by one outcome: the lists of its races, and what a bird scores in a race.
type tally struct {
	api.Season
	lists  [][]int
	scored map[entry]int
}

// A standing is the score of a bird or a member, and the number of races in which it was first, or a bird of theirs.
type standing struct{ number, score, firsts int }

func (x standing) isBefore(other standing) bool {
	return cmp.Or(
		cmp.Compare(x.score, other.score), cmp.Compare(x.firsts, other.firsts), cmp.Compare(other.number, x.number),
	) > 0
}

// count returns the tally of a season of which some birds are struck in a race.
func count(s api.Season, struck map[entry]bool) tally {
	t := tally{Season: s, scored: map[entry]int{}}
	for race, contest := range s.Races {
		list := slices.DeleteFunc(slices.Clone(contest.Order), func(bird int) bool { return struck[entry{race, bird}] })
		for i, bird := range list[:min(len(list), len(s.Points))] {
			t.scored[entry{race, bird}] = s.Points[i]
		}
		t.lists = append(t.lists, list)
	}
	return t
}

// place returns the place of a bird in the list of a race, 0 if it is not in it.
func (t tally) place(race, bird int) int { return slices.Index(t.lists[race], bird) + 1 }

// standing returns the standing of a team of birds.
func (t tally) standing(number int, birds []int) standing {
	x := standing{number: number}
	var races []int
	for race, list := range t.lists {
		var points []int
		for _, bird := range birds {
			points = append(points, t.scored[entry{race, bird}])
		}
		races = append(races, greatest(points, t.Team))
		if len(list) > 0 && slices.Contains(birds, list[0]) {
			x.firsts++
		}
	}
	x.score = greatest(races, t.Best)
	return x
}

// first returns the number of the team that is before all others.
func (t tally) first(teams map[int][]int) int {
	first := standing{number: nobody, score: -1} // no score is less
	for number, birds := range teams {
		if x := t.standing(number, birds); x.isBefore(first) {
			first = x
		}
	}
	return first.number
}

// rank returns one more than the number of teams that are before one of them.
func (t tally) rank(teams map[int][]int, number int) int {
	rank := 1
	own := t.standing(number, teams[number])
	for other, birds := range teams {
		if t.standing(other, birds).isBefore(own) {
			rank++
		}
	}
	return rank
}

// singles returns a team of its own for each bird. As at least one bird of a team counts, it scores what the bird scores.
func singles(s api.Season) map[int][]int {
	teams := map[int][]int{}
	for bird := range s.Owners {
		teams[bird] = []int{bird}
	}
	return teams
}

// flocks returns the birds of each member who owns one.
func flocks(s api.Season) map[int][]int {
	teams := map[int][]int{}
	for bird, owner := range s.Owners {
		teams[owner] = append(teams[owner], bird)
	}
	return teams
}

// greatest returns the sum of the greatest of some numbers, of all if there are fewer.
func greatest(numbers []int, most int) int {
	slices.Sort(numbers)
	sum := 0
	for _, n := range numbers[max(0, len(numbers)-most):] {
		sum += n
	}
	return sum
}
