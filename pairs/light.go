package pairs

import "squeaker/api"

// A stretch is how many days the shed was darkened so far, and how many of them are the last ones, one after the other.
type stretch struct{ days, row int }

// darkest returns for each number of days, of those up to a day, the ones that take the most light if the shed is
// darkened, none if it may not be on so many.
func darkest(s api.Shed, day int) map[int]plan {
	best := map[stretch]plan{{}: {}}
	for today := range day + 1 {
		next := map[stretch]plan{}
		keep := keeper(next)
		for before, p := range best {
			keep(stretch{days: before.days}, p)
			if before.row < s.Row {
				keep(stretch{before.days + 1, before.row + 1}, p.with(today, taken(s, today)))
			}
		}
		best = next
	}
	all := map[int]plan{}
	keep := keeper(all)
	for before, p := range best {
		keep(before.days, p)
	}
	return all
}

// taken returns the minutes that a day loses if the shed is darkened.
func taken(s api.Shed, day int) int { return max(0, s.Light[day]-s.Dark) }

// excess returns the minutes that must be taken up to a day, so that the moult has not begun.
func excess(s api.Shed, day int) int {
	minutes := 0
	for _, light := range s.Light[:day+1] {
		minutes += light
	}
	return minutes - s.Need + 1
}
