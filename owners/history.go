package owners

import (
	"cmp"
	"maps"
	"slices"

	"squeaker/api"
)

// An ownership is the member who owns each bird.
type ownership [api.MaxBirds]int

// Truths are ownerships, each of them once.
type truths map[ownership]bool

// A history is a valid stud, the truths before all deeds, and the deeds that count, in the order in which they happen.
type history struct {
	api.Stud
	firsts truths
	steps  []step
}

// A step is a deed that happens, whether it is idle in some truth, whether it passes a bird in some, and the truths
// after it.
type step struct {
	api.Deed
	canIdle, canPass bool
	after            truths
}

// question returns the truths after a day, for a question whose other arguments are as described, or are not.
func question(s api.Stud, day int, described bool) (truths, api.Errno) {
	h, e := tell(s)
	if e != api.OK {
		return nil, e
	}
	if !isDay(day) || !described {
		return nil, api.ErrArg
	}
	return h.after(day), api.OK
}

// tell returns the history of a stud.
func tell(s api.Stud) (*history, api.Errno) {
	if e := Check(s); e != api.OK {
		return nil, e
	}
	var first ownership
	copy(first[:], s.Firsts)
	h := &history{Stud: s, firsts: truths{first: true}}
	now := h.firsts
	for _, d := range h.counted() {
		next := h.happen(d, now)
		if len(next.after) > api.MaxStates {
			return nil, api.ErrMany
		}
		h.steps = append(h.steps, next)
		now = next.after
	}
	return h, api.OK
}

// counted returns the deeds that count, each once, in the order in which they happen.
func (h *history) counted() []api.Deed {
	deeds := once(h.Deeds, func(a, b api.Deed) int {
		return cmp.Or(cmp.Compare(a.Day, b.Day), cmp.Compare(a.Id, b.Id))
	})
	return slices.DeleteFunc(deeds, func(d api.Deed) bool { return slices.Contains(h.Voided, d.Id) })
}

// happen returns the step of a deed that happens next after some truths.
func (h *history) happen(d api.Deed, before truths) step {
	next := step{Deed: d, after: truths{}}
	for o := range before {
		meant := h.meant(d, o)
		for _, bird := range meant {
			passed := o
			passed[bird] = d.To
			next.after[passed] = true
		}
		if len(meant) > 0 {
			next.canPass = true
		} else {
			next.canIdle = true
			next.after[o] = true
		}
	}
	return next
}

// meant returns all birds that a deed can mean if it happens with an ownership.
func (h *history) meant(d api.Deed, o ownership) []int {
	return slices.DeleteFunc(withRing(h.Flock, d.Ring), func(bird int) bool { return o[bird] != d.From })
}

// after returns the truths after a day.
func (h *history) after(day int) truths {
	now := h.firsts
	for _, deed := range h.steps {
		if deed.Day <= day {
			now = deed.after
		}
	}
	return now
}

// owners returns all members who own one of some birds in some truth, in ascending order.
func (t truths) owners(birds ...int) []int {
	found := map[int]bool{}
	for o := range t {
		for _, bird := range birds {
			found[o[bird]] = true
		}
	}
	return slices.Sorted(maps.Keys(found))
}

// withRing returns all birds with a ring, in ascending order.
func withRing(f api.Flock, ring int) []int {
	var birds []int
	for i, b := range f.Birds {
		if b.Ring == ring {
			birds = append(birds, i)
		}
	}
	return birds
}

// once returns elements in an order in which equal ones follow each other, each of them once.
func once[T comparable](list []T, order func(a, b T) int) []T {
	return slices.Compact(slices.SortedFunc(slices.Values(list), order))
}

// copied returns a flock that shares no memory with another one.
func copied(f api.Flock) api.Flock {
	birds := slices.Clone(f.Birds)
	for i, b := range birds {
		birds[i].Sires, birds[i].Dams = slices.Clone(b.Sires), slices.Clone(b.Dams)
	}
	return api.Flock{Birds: birds}
}
