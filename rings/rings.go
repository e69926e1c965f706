// Package rings keeps the birds of a club: their rings, which can be doubled, when they were born, and who can be
// whose parents. Every answer holds for all that can be so as far as is known.
package rings

import (
	"slices"

	"squeaker/api"
)

// Check returns ErrFlock unless a flock is valid.
func Check(f api.Flock) api.Errno {
	if len(f.Birds) > api.MaxBirds {
		return api.ErrFlock
	}
	for i := range f.Birds {
		if !validBird(f.Birds, i) {
			return api.ErrFlock
		}
	}
	return api.OK
}

// Doubled returns all rings that more than one bird has, in ascending order.
func Doubled(f api.Flock) ([]int, api.Errno) {
	if e := Check(f); e != api.OK {
		return nil, e
	}
	var doubled []int
	seen := map[int]int{}
	for _, b := range f.Birds {
		seen[b.Ring]++
		if seen[b.Ring] == 2 {
			doubled = append(doubled, b.Ring)
		}
	}
	slices.Sort(doubled)
	return doubled, api.OK
}

// Many returns the number of truths.
func Many(f api.Flock) (int, api.Errno) {
	if e := question(f); e != api.OK {
		return 0, e
	}
	many := 0
	for range truths(f.Birds) {
		many++
	}
	return many, api.OK
}

// Show returns a truth: for each bird its father and its mother, -1 for parents that are no birds of the flock.
func Show(f api.Flock) (sires, dams []int, e api.Errno) {
	if e := question(f); e != api.OK {
		return nil, nil, e
	}
	n := len(f.Birds)
	for t := range truths(f.Birds) {
		return slices.Clone(t.sires[:n]), slices.Clone(t.dams[:n]), api.OK
	}
	return nil, nil, api.ErrNone
}

// Parents returns all birds that are the father, and all that are the mother, of a bird in some truth, in ascending
// order.
func Parents(f api.Flock, bird int) (sires, dams []int, e api.Errno) {
	if e := question(f, bird); e != api.OK {
		return nil, nil, e
	}
	var father, mother [api.MaxBirds]bool
	none := true
	for t := range truths(f.Birds) {
		none = false
		if p := t.sires[bird]; p != nobody {
			father[p] = true
		}
		if p := t.dams[bird]; p != nobody {
			mother[p] = true
		}
	}
	if none {
		return nil, nil, api.ErrNone
	}
	b := f.Birds[bird]
	sires = slices.DeleteFunc(slices.Clone(b.Sires), func(p int) bool { return !father[p] })
	dams = slices.DeleteFunc(slices.Clone(b.Dams), func(p int) bool { return !mother[p] })
	return sires, dams, api.OK
}

// Ancestor returns Surely if old is an ancestor of young in each truth, Never if it is in none, and Perhaps
// otherwise.
func Ancestor(f api.Flock, old, young int) (int, api.Errno) {
	if e := question(f, old, young); e != api.OK {
		return 0, e
	}
	found, e := bounds(f.Birds, func(t truth) api.Span {
		if t.descends(young, old) {
			return api.Span{Low: 1, High: 1}
		}
		return api.Span{}
	})
	switch {
	case e != api.OK:
		return 0, e
	case found.Low == 1:
		return api.Surely, api.OK
	case found.High == 0:
		return api.Never, api.OK
	}
	return api.Perhaps, api.OK
}

// Births returns the first and the last year in which a bird can be born, in some truth, with some years of the
// others.
func Births(f api.Flock, bird int) (api.Span, api.Errno) {
	if e := question(f, bird); e != api.OK {
		return api.Span{}, e
	}
	return bounds(f.Birds, func(t truth) api.Span {
		return api.Span{Low: t.first[bird], High: lastYears(f.Birds, t.pedigree)[bird]}
	})
}

// Inbred returns the least and the greatest inbreeding of a bird in any truth.
func Inbred(f api.Flock, bird int) (low, high api.Frac, e api.Errno) {
	if e := question(f, bird); e != api.OK {
		return api.Frac{}, api.Frac{}, e
	}
	return kinshipBounds(f.Birds, func(t truth) (int, int) { return t.sires[bird], t.dams[bird] })
}

// Chick returns the least and the greatest inbreeding that a chick of a cock and a hen would have in any truth.
func Chick(f api.Flock, cock, hen int) (low, high api.Frac, e api.Errno) {
	if e := question(f, cock, hen); e != api.OK {
		return api.Frac{}, api.Frac{}, e
	}
	if f.Birds[cock].Sex != api.Cock || f.Birds[hen].Sex != api.Hen {
		return api.Frac{}, api.Frac{}, api.ErrArg
	}
	return kinshipBounds(f.Birds, func(truth) (int, int) { return cock, hen })
}
