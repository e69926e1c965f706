package strays_test

import (
	"cmp"
	"fmt"
	"math/rand"
	"slices"

	"squeaker/api"
	"squeaker/owners"
)

const (
	lastDay    = 12
	lastMember = 4
	lastId     = 15
	// horizon is a number of days in which a bird surely comes to all places to which it can.
	horizon = 400
)

// A world has the bird that each find means, by the Ids of the finds.
type world map[int]int

// modelFits returns all birds that a find fits, as the chapter says: digit by digit of what is written on the ring.
func modelFits(p api.Pound, f api.Find) []int {
	var fits []int
	for i, b := range p.Stud.Flock.Birds {
		ok := f.Sex == 0 || f.Sex == b.Sex
		for k, written := range fmt.Sprintf("%04d", b.Ring) {
			ok = ok && (f.Digits[k] == -1 || f.Digits[k] == int(written-'0'))
		}
		if ok {
			fits = append(fits, i)
		}
	}
	return fits
}

// known returns the finds that are not strange, and those that are, each once, by their Ids.
func known(p api.Pound) (known, strange map[int]api.Find) {
	known, strange = map[int]api.Find{}, map[int]api.Find{}
	for _, f := range p.Finds {
		if len(modelFits(p, f)) > 0 {
			known[f.Id] = f
		} else {
			strange[f.Id] = f
		}
	}
	return known, strange
}

// worlds returns all truths: of all ways in which each find means one of the birds that it fits, those that can be.
func worlds(p api.Pound) []world {
	finds, _ := known(p)
	all := []world{{}}
	for id := range lastId + 1 {
		f, ok := finds[id]
		if !ok {
			continue
		}
		var longer []world
		for _, w := range all {
			for _, bird := range modelFits(p, f) {
				v := world{id: bird}
				for other, meant := range w {
					v[other] = meant
				}
				longer = append(longer, v)
			}
		}
		all = longer
	}
	return slices.DeleteFunc(all, func(w world) bool { return !canBe(p, finds, w) })
}

func canBe(p api.Pound, finds map[int]api.Find, w world) bool {
	for a, one := range w {
		for b, other := range w {
			days := finds[a].Day - finds[b].Day
			if days < 0 {
				days = -days
			}
			if one == other && finds[a].Place != finds[b].Place && days < p.Apart {
				return false
			}
		}
	}
	return true
}

// modelLeads returns all members who can own one of some birds after a day.
func modelLeads(p api.Pound, birds []int, day int) []int {
	var leads []int
	for member := range api.MaxMember + 1 {
		if slices.ContainsFunc(birds, func(bird int) bool { return slices.Contains(holders(p.Stud, day, bird), member) }) {
			leads = append(leads, member)
		}
	}
	return leads
}

// holders returns all members who can own a bird after a day.
func holders(s api.Stud, day, bird int) []int {
	who, e := owners.Owners(s, day, bird)
	if e != api.OK {
		panic("nobody can own a bird")
	}
	return who
}

// modelDoubt returns why it is not known who owns the bird of a find.
func modelDoubt(p api.Pound, birds, leads []int) int {
	rings := map[int]bool{}
	for _, bird := range birds {
		rings[p.Stud.Flock.Birds[bird].Ring] = true
	}
	if len(leads) == 1 {
		return 0
	}
	if len(birds) == 1 {
		return 3
	}
	if len(rings) == 1 {
		return 1
	}
	return 2
}

// modelWay returns the first day on which a bird that is at a place on a day can be at another one, -1 if it cannot. It
// follows all that the bird can do day by day.
func modelWay(p api.Pound, from, day, to int) int {
	last := day
	for _, c := range p.Carriers {
		last = max(last, c.First)
	}
	there := map[int]bool{}
	arriving := map[int][]int{day: {from}}
	for now := day; now <= api.MaxDay && now <= last+horizon; now++ {
		for _, place := range arriving[now] {
			there[place] = true
		}
		if there[to] {
			return now
		}
		for _, c := range p.Carriers {
			if leaves := now >= c.First && (now-c.First)%c.Every == 0; leaves && there[c.From] {
				arriving[now+c.Takes] = append(arriving[now+c.Takes], c.To)
			}
		}
	}
	return -1
}

// homesOf returns the place of the home of each member who has one.
func homesOf(p api.Pound) map[int]int {
	homes := map[int]int{}
	for _, h := range p.Homes {
		homes[h.Member] = h.Place
	}
	return homes
}

// randomPound returns a valid pound with few birds, members, days and places, in which most of the finds fit some bird,
// and finds, homes and carriers stand in any order, some of the finds twice. Some have all days near the last one.
func randomPound(r *rand.Rand) api.Pound {
	base := []int{0, 0, 5, api.MaxDay - lastDay}[r.Intn(4)]
	p := api.Pound{Stud: randomStud(r, base), Places: 1 + r.Intn(6), Apart: r.Intn(6)}
	if len(p.Stud.Flock.Birds) == 0 {
		return p
	}
	for _, id := range r.Perm(lastId + 1)[:r.Intn(5)] {
		p.Finds = append(p.Finds, randomFind(r, p, id, base))
	}
	if len(p.Finds) > 0 && r.Intn(3) == 0 {
		p.Finds = append(p.Finds, p.Finds[r.Intn(len(p.Finds))])
	}
	for _, member := range r.Perm(lastMember + 1)[r.Intn(2)*r.Intn(3):] {
		p.Homes = append(p.Homes, home(member, r.Intn(p.Places)))
	}
	if p.Places > 1 {
		for range r.Intn(api.MaxCarriers + 1) {
			p.Carriers = append(p.Carriers, randomCarrier(r, p, base))
		}
	}
	shuffle(r, p)
	return p
}

// randomFind returns a find of one of the birds of a pound, of which not everything was read; seldom something else.
func randomFind(r *rand.Rand, p api.Pound, id, base int) api.Find {
	b := p.Stud.Flock.Birds[r.Intn(len(p.Stud.Flock.Birds))]
	f := find(id, base+r.Intn(lastDay+1), fmt.Sprintf("%04d", b.Ring), b.Sex*min(1, r.Intn(3)), r.Intn(p.Places))
	unread := 1 + r.Intn(5)
	for k := range f.Digits {
		if r.Intn(6) < unread {
			f.Digits[k] = -1
		}
	}
	if r.Intn(8) == 0 {
		f.Digits[r.Intn(4)] = r.Intn(10)
	}
	return f
}

func randomCarrier(r *rand.Rand, p api.Pound, base int) api.Carrier {
	places := r.Perm(p.Places)
	longest := 1 + r.Intn(8)
	first := min(api.MaxDay, max(0, base+r.Intn(lastDay+4)-6))
	return carrier(places[0], places[1], first, 1+r.Intn(longest), 1+r.Intn(longest))
}

// randomStud returns a valid stud with few birds, members and rings, without too many truths, most of whose deeds pass
// a bird.
func randomStud(r *rand.Rand, base int) api.Stud {
	var s api.Stud
	rings := randomRings(r)
	members := 1 + r.Intn(lastMember)
	for range r.Intn(6) {
		s.Flock.Birds = append(s.Flock.Birds, bird(rings[r.Intn(len(rings))], 1+r.Intn(2)))
		s.Firsts = append(s.Firsts, r.Intn(members))
	}
	if len(s.Flock.Birds) == 0 {
		return s
	}
	for _, id := range r.Perm(lastId + 1)[:r.Intn(7)] {
		s.Deeds = append(s.Deeds, deed(id, base+r.Intn(lastDay), 0, 0, r.Intn(lastMember)))
	}
	slices.SortFunc(s.Deeds, func(a, b api.Deed) int { return cmp.Or(a.Day-b.Day, a.Id-b.Id) })
	now := slices.Clone(s.Firsts)
	for i := range s.Deeds {
		bird := r.Intn(len(now))
		s.Deeds[i].Ring, s.Deeds[i].From = s.Flock.Birds[bird].Ring, now[bird]
		now[bird] = s.Deeds[i].To
	}
	for _, d := range s.Deeds {
		if r.Intn(10) == 0 {
			s.Voided = append(s.Voided, d.Id)
		}
	}
	return s
}

// randomRings returns some rings that have many digits in common.
func randomRings(r *rand.Rand) []int {
	low, high := r.Intn(10), r.Intn(10)
	rings := make([]int, 1+r.Intn(6))
	for i := range rings {
		for range 4 {
			rings[i] = 10*rings[i] + []int{low, low, high}[r.Intn(3)]
		}
	}
	return rings
}

// shuffle puts all lists of a pound into another order.
func shuffle(r *rand.Rand, p api.Pound) {
	mix(r, p.Stud.Deeds)
	mix(r, p.Finds)
	mix(r, p.Homes)
	mix(r, p.Carriers)
}

func mix[T any](r *rand.Rand, l []T) {
	r.Shuffle(len(l), func(i, j int) { l[i], l[j] = l[j], l[i] })
}

// copied returns a pound that shares no memory with another one.
func copied(p api.Pound) api.Pound {
	p.Stud.Flock.Birds = slices.Clone(p.Stud.Flock.Birds)
	for i, b := range p.Stud.Flock.Birds {
		p.Stud.Flock.Birds[i].Sires, p.Stud.Flock.Birds[i].Dams = slices.Clone(b.Sires), slices.Clone(b.Dams)
	}
	p.Stud.Firsts, p.Stud.Deeds, p.Stud.Voided = slices.Clone(p.Stud.Firsts), slices.Clone(p.Stud.Deeds), slices.Clone(p.Stud.Voided)
	p.Finds = slices.Clone(p.Finds)
	for i, f := range p.Finds {
		p.Finds[i].Digits = slices.Clone(f.Digits)
	}
	p.Homes, p.Carriers = slices.Clone(p.Homes), slices.Clone(p.Carriers)
	return p
}
