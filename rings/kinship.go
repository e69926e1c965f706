package rings

import (
	"cmp"
	"slices"

	"squeaker/api"
)

// whole is the kinship 1. A kinship is reckoned by halving it at most twice for each bird, so that all parts of this
// number that are needed are integers.
const whole = 1 << (2 * api.MaxBirds)

// A kinTable has the kinship of each two birds, in parts of whole.
type kinTable [api.MaxBirds][api.MaxBirds]int

// of returns the kinship of two birds, either of which can be no bird of the flock.
func (k *kinTable) of(a, b int) int {
	if a == nobody || b == nobody {
		return 0
	}
	return k[a][b]
}

// kinships returns the kinships of all of the first n birds in a truth.
func (t truth) kinships(n int) kinTable {
	var k kinTable
	order := t.byAge(n)
	for at, young := range order {
		sire, dam := t.sires[young], t.dams[young]
		for _, old := range order[:at] {
			both := (k.of(sire, old) + k.of(dam, old)) / 2
			k[young][old], k[old][young] = both, both
		}
		k[young][young] = (whole + k.of(sire, dam)) / 2
	}
	return k
}

// byAge returns the first n birds such that none is before one of its ancestors.
func (t truth) byAge(n int) []int {
	order := make([]int, n)
	for i := range n {
		order[i] = i
	}
	slices.SortFunc(order, func(a, b int) int { return cmp.Compare(t.first[a], t.first[b]) })
	return order
}

// kinshipBounds returns the least and the greatest kinship in any truth of two birds that are chosen in each truth.
func kinshipBounds(birds []api.Bird, choose func(truth) (a, b int)) (low, high api.Frac, e api.Errno) {
	all, e := bounds(birds, func(t truth) api.Span {
		a, b := choose(t)
		k := t.kinships(len(birds))
		return api.Span{Low: k.of(a, b), High: k.of(a, b)}
	})
	if e != api.OK {
		return api.Frac{}, api.Frac{}, e
	}
	return fraction(all.Low), fraction(all.High), api.OK
}

// fraction returns a number of parts of whole as a fraction without a common divisor.
func fraction(parts int) api.Frac {
	d := divisor(parts, whole)
	return api.Frac{Num: parts / d, Den: whole / d}
}

// divisor returns the greatest common divisor of a number and one above 0.
func divisor(a, b int) int {
	for a != 0 {
		a, b = b%a, a
	}
	return b
}
