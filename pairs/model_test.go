package pairs_test

import (
	"cmp"
	"math/rand"
	"slices"

	"squeaker/api"
	"squeaker/rings"
)

// copied returns an equal aviary that shares no memory.
func copied(a api.Aviary) api.Aviary {
	a.Flock.Birds, a.Matches = slices.Clone(a.Flock.Birds), slices.Clone(a.Matches)
	for i, b := range a.Flock.Birds {
		a.Flock.Birds[i].Sires, a.Flock.Birds[i].Dams = slices.Clone(b.Sires), slices.Clone(b.Dams)
	}
	return a
}

// worlds returns the truths of a flock, each as a flock in which no bird has two possible fathers or mothers.
func worlds(f api.Flock) []api.Flock {
	out := []api.Flock{f}
	for i := range f.Birds {
		var next []api.Flock
		for _, g := range out {
			for _, sires := range singles(g.Birds[i].Sires) {
				for _, dams := range singles(g.Birds[i].Dams) {
					h := api.Flock{Birds: slices.Clone(g.Birds)}
					h.Birds[i].Sires, h.Birds[i].Dams = sires, dams
					next = append(next, h)
				}
			}
		}
		out = next
	}
	return slices.DeleteFunc(out, func(g api.Flock) bool {
		many, _ := rings.Many(g)
		return many == 0
	})
}

// singles returns each of some parents alone, nobody if there are none.
func singles(parents []int) [][]int {
	if len(parents) == 0 {
		return [][]int{nil}
	}
	var out [][]int
	for _, p := range parents {
		out = append(out, []int{p})
	}
	return out
}

// isWithin tells whether the chicks of a couple are within a limit in one truth.
func isWithin(world api.Flock, limit api.Frac, cock, hen int) bool {
	low, high, e := rings.Chick(world, cock, hen)
	if e != api.OK || low != high {
		panic("a truth has several kinships")
	}
	return low.Num*limit.Den <= limit.Num*low.Den
}

// modelMay returns what May is, truth by truth.
func modelMay(all []api.Flock, limit api.Frac, cock, hen int) int {
	within := 0
	for _, w := range all {
		if isWithin(w, limit, cock, hen) {
			within++
		}
	}
	switch within {
	case len(all):
		return api.Surely
	case 0:
		return api.Never
	}
	return api.Perhaps
}

// modelPairs returns the matches that may be, in their order.
func modelPairs(a api.Aviary, all []api.Flock) []api.Match {
	var out []api.Match
	couples(a.Flock, func(cock, hen int) {
		for _, m := range a.Matches {
			if m.Cock == cock && m.Hen == hen && modelMay(all, a.Limit, cock, hen) == api.Surely {
				out = append(out, m)
			}
		}
	})
	return out
}

// couples calls a function for each cock and each hen.
func couples(f api.Flock, call func(cock, hen int)) {
	for c := range f.Birds {
		for h := range f.Birds {
			if f.Birds[c].Sex == api.Cock && f.Birds[h].Sex == api.Hen {
				call(c, h)
			}
		}
	}
}

// eachPlan calls a function for each plan of some pairs.
func eachPlan(may []api.Match, boxes int, call func(plan []api.Match)) {
	var choose func(plan, rest []api.Match)
	choose = func(plan, rest []api.Match) {
		if len(rest) == 0 {
			call(plan)
			return
		}
		choose(plan, rest[1:])
		if longer := append(slices.Clone(plan), rest[0]); len(longer) <= boxes && isFree(plan, rest[0]) {
			choose(longer, rest[1:])
		}
	}
	choose(nil, may)
}

// isFree tells whether neither the cock nor the hen of a match is in a plan.
func isFree(plan []api.Match, m api.Match) bool {
	return !slices.ContainsFunc(plan, func(other api.Match) bool { return other.Cock == m.Cock || other.Hen == m.Hen })
}

func modelMost(may []api.Match, boxes int) int {
	most := 0
	eachPlan(may, boxes, func(plan []api.Match) { most = max(most, worthOf(plan)) })
	return most
}

func worthOf(plan []api.Match) int {
	worth := 0
	for _, m := range plan {
		worth += m.Worth
	}
	return worth
}

// isPlan tells whether some matches are a plan of an aviary, some of whose matches may be.
func isPlan(a api.Aviary, may, plan []api.Match) bool {
	for i, m := range plan {
		if !slices.Contains(may, m) || !isFree(plan[:i], m) {
			return false
		}
	}
	return len(plan) <= a.Boxes
}

// arePrices tells whether there is a price of each bird and of a box, that together cover all matches that may be.
func arePrices(a api.Aviary, may []api.Match, birds []int, box int) bool {
	const maxPrice = 100000
	if len(birds) != len(a.Flock.Birds) {
		return false
	}
	for _, price := range append(slices.Clone(birds), box) {
		if price < 0 || price > maxPrice {
			return false
		}
	}
	return !slices.ContainsFunc(may, func(m api.Match) bool { return m.Worth > birds[m.Cock]+birds[m.Hen]+box })
}

func boundOf(a api.Aviary, birds []int, box int) int {
	bound := a.Boxes * box
	for _, price := range birds {
		bound += price
	}
	return bound
}

// inOrder returns some matches by the numbers of their cocks and hens.
func inOrder(plan []api.Match) []api.Match {
	return slices.SortedFunc(slices.Values(plan), func(m, n api.Match) int {
		return cmp.Or(cmp.Compare(m.Cock, n.Cock), cmp.Compare(m.Hen, n.Hen))
	})
}

// minutesOn returns the light of a day of a shed that is darkened on some days.
func minutesOn(s api.Shed, dark []int, day int) int {
	if slices.Contains(dark, day) {
		return min(s.Light[day], s.Dark)
	}
	return s.Light[day]
}

// modelMoult returns the day on which the moult begins in a shed that is darkened on some days, and whether it begins.
func modelMoult(s api.Shed, dark []int) (int, bool) {
	for day := range s.Light {
		together := 0
		for before := 0; before <= day; before++ {
			together += minutesOn(s, dark, before)
		}
		if together >= s.Need {
			return day, true
		}
	}
	return 0, false
}

// mayBeDark tells whether a shed may be darkened on some days, as never too many follow each other.
func mayBeDark(s api.Shed, dark []int) bool {
	for first := range s.Light {
		row := 0
		for slices.Contains(dark, first+row) {
			row++
		}
		if row > s.Row {
			return false
		}
	}
	return true
}

// areDays tells whether some days are ascending, and darken a shed so that the moult has not begun on a day.
func areDays(s api.Shed, day int, dark []int) bool {
	for i, d := range dark {
		if d < 0 || d >= len(s.Light) || i > 0 && d <= dark[i-1] {
			return false
		}
	}
	begin, begins := modelMoult(s, dark)
	return mayBeDark(s, dark) && (!begins || begin > day)
}

// eachDays calls a function for all days of a shed that can be darkened, whether it may be so or not.
func eachDays(s api.Shed, call func(dark []int)) {
	for set := range 1 << len(s.Light) {
		var dark []int
		for d := range s.Light {
			if set>>d&1 == 1 {
				dark = append(dark, d)
			}
		}
		call(dark)
	}
}

// modelFewest tries all days. It returns the least number of them, and whether there are any.
func modelFewest(s api.Shed, day int) (int, bool) {
	fewest := len(s.Light) + 1
	eachDays(s, func(dark []int) {
		if len(dark) < fewest && areDays(s, day, dark) {
			fewest = len(dark)
		}
	})
	return fewest, fewest <= len(s.Light)
}

// randomFlock returns a flock with truths, but with few pedigrees, in which many birds are kin.
func randomFlock(r *rand.Rand) api.Flock {
	for {
		n := max(r.Intn(api.MaxBirds+1), r.Intn(api.MaxBirds+1))
		f := api.Flock{Birds: make([]api.Bird, n)}
		pedigrees := 1
		for i := range f.Birds {
			low := r.Intn(2) + i/2
			f.Birds[i] = bird(r.Intn(n+2), 1+r.Intn(2), span(low, low+1+r.Intn(3)), nil, nil)
		}
		parents := func(i, sex int) []int {
			l := randomParents(r, f, i, sex)
			if pedigrees*max(1, len(l)) > 24 {
				l = l[:1]
			}
			pedigrees *= max(1, len(l))
			return l
		}
		for i := range f.Birds {
			f.Birds[i].Sires, f.Birds[i].Dams = parents(i, api.Cock), parents(i, api.Hen)
		}
		if many, _ := rings.Many(f); many > 0 {
			return f
		}
	}
}

func randomParents(r *rand.Rand, f api.Flock, i, sex int) []int {
	var out []int
	for p, b := range f.Birds[:i] {
		if b.Sex == sex && r.Intn(2) == 0 && len(out) < api.MaxMay {
			out = append(out, p)
		}
	}
	return out
}

// randomAviary returns a valid aviary whose flock has a truth, with a limit near the inbreeding of some chick.
func randomAviary(r *rand.Rand) api.Aviary {
	a := api.Aviary{Flock: randomFlock(r), Limit: frac(r.Intn(3), 2+r.Intn(7)), Boxes: r.Intn(1 + r.Intn(8))}
	couples(a.Flock, func(cock, hen int) {
		if r.Intn(4) == 0 {
			a.Limit = randomLimit(r, a.Flock, cock, hen)
		}
	})
	a.Matches = randomMatches(r, a.Flock)
	return a
}

// randomLimit returns what the inbreeding of a chick is or can be, or a little less or more.
func randomLimit(r *rand.Rand, f api.Flock, cock, hen int) api.Frac {
	low, high, _ := rings.Chick(f, cock, hen)
	x := []api.Frac{low, high}[r.Intn(2)]
	times := 1 + r.Intn(max(1, api.MaxDen/x.Den))
	x = frac(x.Num*times, x.Den*times)
	x.Num = min(max(0, x.Num+r.Intn(3)-1), x.Den)
	return x
}

// randomMatches returns matches of a flock, in any order, often with the same worths.
func randomMatches(r *rand.Rand, f api.Flock) []api.Match {
	var out []api.Match
	part, most := 1+r.Intn(4), []int{1, 4, 12, api.MaxWorth}[r.Intn(4)]
	couples(f, func(cock, hen int) {
		if r.Intn(4) < part {
			out = append(out, match(cock, hen, 1+r.Intn(most)))
		}
	})
	r.Shuffle(len(out), func(i, j int) { out[i], out[j] = out[j], out[i] })
	return out
}

// randomTable returns an aviary in which all matches may be.
func randomTable(r *rand.Rand) api.Aviary {
	cocks := 1 + r.Intn(5)
	a := api.Aviary{Flock: strangers(cocks, 1+r.Intn(5)), Limit: frac(0, 1), Boxes: r.Intn(6)}
	a.Matches = randomMatches(r, a.Flock)
	return a
}

// randomShed returns a valid shed in which the moult mostly begins, but not if many days are dark.
func randomShed(r *rand.Rand) api.Shed {
	s := api.Shed{Dark: r.Intn(1 + r.Intn(8)), Row: r.Intn(6)}
	most, light, dark := 2+r.Intn(14), 0, 0
	for range 1 + r.Intn(8) {
		minutes := r.Intn(most + 1)
		s.Light = append(s.Light, minutes)
		light += minutes
		dark += min(minutes, s.Dark)
	}
	s.Need = 1 + dark + r.Intn(light-dark+2)
	return s
}
