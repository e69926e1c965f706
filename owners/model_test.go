package owners_test

import (
	"cmp"
	"fmt"
	"math/rand"
	"slices"

	"squeaker/api"
)

// A way is one way in which all deeds can happen: who owns the birds before the first one and after each of them, and
// which of them are idle.
type way struct {
	owners [][]int
	idle   []bool
}

// happening returns the deeds that count, in the order in which they happen, as the chapter says: day by day, Id by Id.
func happening(s api.Stud) []api.Deed {
	last := 0
	for _, d := range s.Deeds {
		last = max(last, d.Day)
	}
	var out []api.Deed
	for day := 0; day <= last; day++ {
		for id := 0; id <= api.MaxMember; id++ {
			at := slices.IndexFunc(s.Deeds, func(d api.Deed) bool { return d.Id == id && d.Day == day })
			if at >= 0 && !slices.Contains(s.Voided, id) {
				out = append(out, s.Deeds[at])
			}
		}
	}
	return out
}

// ways returns all ways of a stud, by trying each bird that each deed can mean.
func ways(s api.Stud) []way {
	var out []way
	deeds := happening(s)
	var choose func(w way)
	choose = func(w way) {
		at := len(w.idle)
		if at == len(deeds) {
			out = append(out, w)
			return
		}
		now := w.owners[at]
		idle := true
		for i, b := range s.Flock.Birds {
			if b.Ring == deeds[at].Ring && now[i] == deeds[at].From {
				idle = false
				next := slices.Clone(now)
				next[i] = deeds[at].To
				choose(way{append(slices.Clip(w.owners), next), append(slices.Clip(w.idle), false)})
			}
		}
		if idle {
			choose(way{append(slices.Clip(w.owners), now), append(slices.Clip(w.idle), true)})
		}
	}
	choose(way{owners: [][]int{s.Firsts}})
	return out
}

// after returns all ownerships after a day, each of them once.
func after(s api.Stud, all []way, day int) [][]int {
	at := 0
	for _, d := range happening(s) {
		if d.Day <= day {
			at++
		}
	}
	var out [][]int
	seen := map[string]bool{}
	for _, w := range all {
		if key := fmt.Sprint(w.owners[at]); !seen[key] {
			seen[key] = true
			out = append(out, w.owners[at])
		}
	}
	return out
}

// modelIdle returns the Ids of all deeds that are idle in each way, and in some way.
func modelIdle(s api.Stud, all []way) (sure, may []int) {
	for i, d := range happening(s) {
		idle := 0
		for _, w := range all {
			if w.idle[i] {
				idle++
			}
		}
		if idle > 0 {
			may = append(may, d.Id)
		}
		if idle == len(all) {
			sure = append(sure, d.Id)
		}
	}
	slices.Sort(sure)
	slices.Sort(may)
	return sure, may
}

// ordered returns some numbers in ascending order, each of them once.
func ordered(l []int) []int {
	l = slices.Clone(l)
	slices.Sort(l)
	return slices.Compact(l)
}

const (
	lastDay    = 6
	lastMember = 4
	lastRing   = 3
	lastId     = 11
)

// randomStud returns a valid stud with few birds, members, days and rings, in which deeds stand in any order, some of
// them twice, and some are recalled.
func randomStud(r *rand.Rand) api.Stud {
	var s api.Stud
	for range max(r.Intn(6), r.Intn(6)) {
		ring := min(r.Intn(lastRing), r.Intn(lastRing))
		s.Flock.Birds = append(s.Flock.Birds, bird(ring, 1+r.Intn(2), r.Intn(9)))
		s.Firsts = append(s.Firsts, r.Intn(lastMember-1))
	}
	s.Deeds = randomDeeds(r, s)
	for range r.Intn(1 + len(s.Deeds)/2) {
		s.Deeds = append(s.Deeds, s.Deeds[r.Intn(len(s.Deeds))])
	}
	for range r.Intn(4) * r.Intn(2) {
		s.Voided = append(s.Voided, r.Intn(lastId+1))
	}
	shuffle(r, s)
	return s
}

// randomDeeds returns deeds in the order in which they happen, most of which pass a bird of a stud.
func randomDeeds(r *rand.Rand, s api.Stud) []api.Deed {
	var deeds []api.Deed
	for _, id := range r.Perm(lastId + 1)[:r.Intn(9)] {
		deeds = append(deeds, deed(id, r.Intn(lastDay), 0, 0, r.Intn(lastMember)))
	}
	slices.SortFunc(deeds, func(a, b api.Deed) int { return cmp.Or(a.Day-b.Day, a.Id-b.Id) })
	now := slices.Clone(s.Firsts)
	for i := range deeds {
		d := &deeds[i]
		if len(now) == 0 || r.Intn(6) == 0 {
			d.Ring, d.From = r.Intn(lastRing+1), r.Intn(lastMember)
			continue
		}
		// How many birds with a ring a member has, does not depend on which of them each deed means.
		bird := r.Intn(len(now))
		d.Ring, d.From = s.Flock.Birds[bird].Ring, now[bird]
		now[bird] = d.To
	}
	return deeds
}

// shuffle puts the deeds and recalls of a stud into another order.
func shuffle(r *rand.Rand, s api.Stud) {
	r.Shuffle(len(s.Deeds), func(i, j int) { s.Deeds[i], s.Deeds[j] = s.Deeds[j], s.Deeds[i] })
	r.Shuffle(len(s.Voided), func(i, j int) { s.Voided[i], s.Voided[j] = s.Voided[j], s.Voided[i] })
}

// copied returns a stud that shares no memory with another one.
func copied(s api.Stud) api.Stud {
	s.Flock.Birds = slices.Clone(s.Flock.Birds)
	for i, b := range s.Flock.Birds {
		s.Flock.Birds[i].Sires, s.Flock.Birds[i].Dams = slices.Clone(b.Sires), slices.Clone(b.Dams)
	}
	s.Firsts, s.Deeds, s.Voided = slices.Clone(s.Firsts), slices.Clone(s.Deeds), slices.Clone(s.Voided)
	return s
}
