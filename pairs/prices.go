package pairs

import (
	"maps"
	"math/bits"

	"squeaker/api"
)

// hens is a set of hens, with a bit for each.
type hens uint

func only(hen int) hens { return 1 << hen }

func (h hens) count() int { return bits.OnesCount(uint(h)) }

// bestPlans returns the best plan for each set of hens that can all be paired at once. The pairs are in the order of
// Pairs.
func bestPlans(pairs []api.Match) map[hens]plan {
	best := map[hens]plan{0: {}}
	for cock := range api.MaxBirds {
		longer := maps.Clone(best)
		keep := keeper(longer)
		for paired, p := range best {
			for n, m := range pairs {
				if m.Cock == cock && paired&only(m.Hen) == 0 {
					keep(paired|only(m.Hen), p.with(n, m.Worth))
				}
			}
		}
		best = longer
	}
	return best
}

// bestOf returns the best one of some plans for which there are boxes.
func bestOf(best map[hens]plan, boxes int) plan {
	var most plan
	for paired, p := range best {
		if paired.count() <= boxes && p.isBetter(most) {
			most = p
		}
	}
	return most
}

// worths are the greatest worths of plans of so many matches, 0 if there is none. No more than half of all birds are hens
// that are paired with different cocks.
type worths [api.MaxBirds/2 + 1]int

// worthsWithout returns the worths of plans without some hens.
func worthsWithout(best map[hens]plan, without hens) worths {
	var w worths
	for paired, p := range best {
		if paired&without == 0 {
			w[paired.count()] = max(w[paired.count()], p.worth)
		}
	}
	return w
}

// above returns the greatest worth of a plan above the price of a box for each match.
func (w worths) above(box int) int {
	most := 0
	for n, worth := range w {
		most = max(most, worth-n*box)
	}
	return most
}

// boxPrice returns the price of a box with the least bound. At MaxWorth no match is worth more than its box.
func (w worths) boxPrice(boxes int) int {
	bound := func(box int) int { return w.above(box) + boxes*box }
	best := 0
	for box := range api.MaxWorth + 1 {
		if bound(box) < bound(best) {
			best = box
		}
	}
	return best
}

// prices returns the prices of all birds and of a box. The price of a hen is what the best plan loses without her. No
// hen can have a greater one, and all of them can have theirs together, so that what is left for the cocks to cover adds
// up to the least bound.
func prices(pairs []api.Match, boxes int) (birds [api.MaxBirds]int, box int) {
	best := bestPlans(pairs)
	all := worthsWithout(best, 0)
	box = all.boxPrice(boxes)
	for hen := range birds {
		birds[hen] = all.above(box) - worthsWithout(best, only(hen)).above(box)
	}
	for _, m := range pairs {
		birds[m.Cock] = max(birds[m.Cock], m.Worth-box-birds[m.Hen])
	}
	return birds, box
}
