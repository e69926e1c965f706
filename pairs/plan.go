package pairs

import (
	"cmp"
	"slices"
)

// A plan is pairs or days, by their numbers, ascending, and what they are worth together.
type plan struct {
	numbers []int
	worth   int
}

// with returns a plan that is longer. It is appended behind three indexes, as other plans can begin with the same numbers.
func (p plan) with(number, worth int) plan {
	all := p.numbers
	return plan{append(all[:len(all):len(all)], number), p.worth + worth}
}

// isBetter tells whether a plan is better than another one. Of plans of one worth the one with the first numbers is, so
// that the order in which they are found does not matter.
func (p plan) isBetter(other plan) bool {
	return cmp.Or(cmp.Compare(p.worth, other.worth), slices.Compare(other.numbers, p.numbers)) > 0
}

// keeper returns a function that keeps the best plan for each key.
func keeper[K comparable](best map[K]plan) func(K, plan) {
	return func(key K, p plan) {
		if before, ok := best[key]; !ok || p.isBetter(before) {
			best[key] = p
		}
	}
}
