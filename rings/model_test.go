package rings_test

import (
	"math/big"
	"math/rand"
	"slices"

	"squeaker/api"
)

// A world is a truth as the model has it: the parents of each bird, and all lists of years that can be chosen.
type world struct {
	sires, dams []int
	years       [][]int
}

// worlds returns all truths of a flock, by trying all parents with all years.
func worlds(f api.Flock) []world {
	var out []world
	n := len(f.Birds)
	sires, dams := make([]int, n), make([]int, n)
	var choose func(i int)
	choose = func(i int) {
		if i == n {
			w := world{slices.Clone(sires), slices.Clone(dams), nil}
			w.years = allYears(f, w)
			if len(w.years) > 0 {
				out = append(out, w)
			}
			return
		}
		for _, s := range orNobody(f.Birds[i].Sires) {
			for _, d := range orNobody(f.Birds[i].Dams) {
				sires[i], dams[i] = s, d
				choose(i + 1)
			}
		}
	}
	choose(0)
	return out
}

func orNobody(parents []int) []int {
	if len(parents) == 0 {
		return []int{-1}
	}
	return parents
}

// allYears returns all choices of a year for each bird such that each is born later than its parents.
func allYears(f api.Flock, w world) [][]int {
	var out [][]int
	years := make([]int, len(f.Birds))
	later := func(child, parent int) bool { return parent < 0 || years[child] > years[parent] }
	fits := func(last int) bool {
		for i := 0; i <= last; i++ {
			for _, p := range []int{w.sires[i], w.dams[i]} {
				if p <= last && !later(i, p) {
					return false
				}
			}
		}
		return true
	}
	var choose func(i int)
	choose = func(i int) {
		if i == len(years) {
			out = append(out, slices.Clone(years))
			return
		}
		for y := f.Birds[i].Born.Low; y <= f.Birds[i].Born.High; y++ {
			years[i] = y
			if fits(i) {
				choose(i + 1)
			}
		}
	}
	choose(0)
	return out
}

func (w world) ancestor(old, young int) bool {
	for _, p := range []int{w.sires[young], w.dams[young]} {
		if p >= 0 && (p == old || w.ancestor(old, p)) {
			return true
		}
	}
	return false
}

// kinship follows the definition of the chapter word by word.
func (w world) kinship(a, b int) *big.Rat {
	if a < 0 || b < 0 {
		return new(big.Rat)
	}
	half := big.NewRat(1, 2)
	if a == b {
		sum := new(big.Rat).Add(big.NewRat(1, 1), w.kinship(w.sires[a], w.dams[a]))
		return sum.Mul(sum, half)
	}
	if w.ancestor(a, b) {
		a, b = b, a
	}
	sum := new(big.Rat).Add(w.kinship(w.sires[a], b), w.kinship(w.dams[a], b))
	return sum.Mul(sum, half)
}

func rat(f api.Frac) *big.Rat { return big.NewRat(int64(f.Num), int64(f.Den)) }

// inLowestTerms tells whether a fraction is written as the chapter says.
func inLowestTerms(f api.Frac) bool {
	if f.Den <= 0 {
		return false
	}
	r := rat(f)
	return r.Num().Int64() == int64(f.Num) && r.Denom().Int64() == int64(f.Den)
}

// randomFlock returns a valid flock of up to most birds with narrow years and few pedigrees.
func randomFlock(r *rand.Rand, most int) api.Flock {
	n := max(r.Intn(most+1), r.Intn(most+1))
	f := api.Flock{Birds: make([]api.Bird, n)}
	for i := range f.Birds {
		low := r.Intn(2) + i/2
		f.Birds[i] = api.Bird{Ring: r.Intn(n + 2), Sex: 1 + r.Intn(2), Born: span(low, low+1+r.Intn(3))}
	}
	pedigrees := 1
	parents := func(i, sex int) []int {
		l := randomParents(r, f, i, sex)
		if len(l) > 1 && pedigrees*len(l) > 300 {
			l = l[:1]
		}
		pedigrees *= max(1, len(l))
		return l
	}
	for i := range f.Birds {
		f.Birds[i].Sires, f.Birds[i].Dams = parents(i, api.Cock), parents(i, api.Hen)
	}
	return f
}

// randomParents mostly takes birds with lower numbers, so that many flocks have a truth.
func randomParents(r *rand.Rand, f api.Flock, i, sex int) []int {
	var out []int
	for p, b := range f.Birds {
		likely := p < i && r.Intn(2) == 0 || p > i && r.Intn(40) == 0
		if likely && b.Sex == sex && len(out) < api.MaxMay {
			out = append(out, p)
		}
	}
	return out
}

func copied(f api.Flock) api.Flock {
	g := api.Flock{Birds: slices.Clone(f.Birds)}
	for i, b := range g.Birds {
		g.Birds[i].Sires, g.Birds[i].Dams = slices.Clone(b.Sires), slices.Clone(b.Dams)
	}
	return g
}
