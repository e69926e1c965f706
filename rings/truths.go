package rings

import (
	"iter"

	"squeaker/api"
)

// nobody stands for a parent that is no bird of the flock. It is below the number of every bird.
const nobody = -1

// A pedigree is the father and the mother of each bird.
type pedigree struct {
	sires, dams [api.MaxBirds]int
}

// A truth is a pedigree that can be, and the first year in which each bird can be born then.
type truth struct {
	pedigree
	first [api.MaxBirds]int
}

// truths yields all truths of a valid flock, always in the same order.
func truths(birds []api.Bird) iter.Seq[truth] {
	return func(yield func(truth) bool) {
		for p := range pedigrees(birds) {
			first, can := firstYears(birds, p)
			if can && !yield(truth{p, first}) {
				return
			}
		}
	}
}

// pedigrees yields all pedigrees of a valid flock.
func pedigrees(birds []api.Bird) iter.Seq[pedigree] {
	return func(yield func(pedigree) bool) {
		for n := range manyPedigrees(birds) {
			if !yield(numbered(birds, n)) {
				return
			}
		}
	}
}

// manyPedigrees returns the number of pedigrees of a valid flock, whose lists are too short for an overflow.
func manyPedigrees(birds []api.Bird) int {
	many := 1
	for _, b := range birds {
		many *= max(1, len(b.Sires)) * max(1, len(b.Dams))
	}
	return many
}

// numbered returns a pedigree by its number, of which each list takes a digit.
func numbered(birds []api.Bird, n int) pedigree {
	pick := func(parents []int) int {
		if len(parents) == 0 {
			return nobody
		}
		digit := n % len(parents)
		n /= len(parents)
		return parents[digit]
	}
	var p pedigree
	for i, b := range birds {
		p.sires[i] = pick(b.Sires)
		p.dams[i] = pick(b.Dams)
	}
	return p
}

func (p pedigree) parents(bird int) [2]int {
	return [2]int{p.sires[bird], p.dams[bird]}
}

// descends tells whether old is an ancestor of young. It ends only in a pedigree without a circle.
func (p pedigree) descends(young, old int) bool {
	for _, parent := range p.parents(young) {
		if parent != nobody && (parent == old || p.descends(parent, old)) {
			return true
		}
	}
	return false
}

// firstYears returns the first year in which each bird can be born, and whether the pedigree can be.
func firstYears(birds []api.Bird, p pedigree) (first [api.MaxBirds]int, can bool) {
	for i, b := range birds {
		first[i] = b.Born.Low
	}
	// Without a circle no line of ancestors has more than all birds, so that the years settle in time.
	for range len(birds) + 1 {
		settled := true
		for i := range birds {
			for _, parent := range p.parents(i) {
				if parent != nobody && first[i] <= first[parent] {
					first[i] = first[parent] + 1
					settled = false
				}
			}
			if first[i] > birds[i].Born.High {
				return first, false
			}
		}
		if settled {
			return first, true
		}
	}
	return first, false
}

// lastYears returns the last year in which each bird can be born, for a pedigree that can be.
func lastYears(birds []api.Bird, p pedigree) (last [api.MaxBirds]int) {
	for i, b := range birds {
		last[i] = b.Born.High
	}
	for settled := false; !settled; {
		settled = true
		for i := range birds {
			for _, parent := range p.parents(i) {
				if parent != nobody && last[parent] >= last[i] {
					last[parent] = last[i] - 1
					settled = false
				}
			}
		}
	}
	return last
}

// bounds returns the least and the greatest of what a question has as its answers in all truths.
func bounds(birds []api.Bird, answer func(truth) api.Span) (api.Span, api.Errno) {
	var all api.Span
	none := true
	for t := range truths(birds) {
		one := answer(t)
		if none {
			all = one
		}
		none = false
		all.Low = min(all.Low, one.Low)
		all.High = max(all.High, one.High)
	}
	if none {
		return api.Span{}, api.ErrNone
	}
	return all, api.OK
}
