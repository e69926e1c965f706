package sales_test

import (
	"cmp"
	"math/rand"
	"slices"

	"squeaker/api"
	"squeaker/owners"
)

const (
	lastDay    = 7
	lastMember = 4
	lastRing   = 3
	lastId     = 15
	lastMinute = 24
)

// A hearing is what is known of a lot while bids are heard: those that were taken, in their order, and its end.
type hearing struct {
	lot   api.Lot
	taken []api.Bid
	ends  int
}

// hear returns what is known of a lot after a minute, as the chapter says: minute by minute, Id by Id.
func hear(s api.Sale, lot, minute int) hearing {
	h := hearing{lot: s.Lots[lot], ends: s.Lots[lot].Close}
	for at := 0; at <= min(minute, lastMinute); at++ {
		for id := 0; id <= lastId; id++ {
			i := slices.IndexFunc(s.Bids, func(b api.Bid) bool { return b.Id == id })
			if i < 0 || s.Bids[i].At != at || s.Bids[i].Lot != lot || slices.Contains(s.Recalled, id) {
				continue
			}
			if h.isTaken(s.Bids[i]) {
				h.taken = append(h.taken, s.Bids[i])
				if at+s.Extra > h.ends {
					h.ends = at + s.Extra
				}
			}
		}
	}
	return h
}

func (h hearing) isTaken(b api.Bid) bool {
	if b.Limit < h.lot.Reserve || b.Member == h.lot.Seller || b.At < h.lot.Open || b.At > h.ends {
		return false
	}
	for _, before := range h.taken {
		if before.Member == b.Member && before.Limit >= b.Limit {
			return false
		}
	}
	return true
}

// leader returns who leads and pays which price. Nobody if no bid was taken.
func (h hearing) leader(step int) (member, price int, any bool) {
	if len(h.taken) == 0 {
		return 0, 0, false
	}
	order := slices.Clone(h.taken)
	slices.SortStableFunc(order, func(a, b api.Bid) int { return b.Limit - a.Limit })
	leader := order[0]
	for _, b := range order {
		if b.Member != leader.Member {
			return leader.Member, max(h.lot.Reserve, min(leader.Limit, b.Limit+step)), true
		}
	}
	return leader.Member, h.lot.Reserve, true
}

// modelResult returns what became of a lot.
func modelResult(s api.Sale, lot int) api.Outcome {
	member, price, any := hear(s, lot, lastMinute).leader(s.Step)
	if !any {
		return unsold()
	}
	if who := holders(s, lot); len(who) > 1 || who[0] != s.Lots[lot].Seller {
		return doubtful()
	}
	fee := 0
	for (fee+1)*1000 <= price*s.Mille {
		fee++
	}
	return passed(member, price, fee, price-fee)
}

// holders returns all members who can own the bird of a lot before the day of the deed.
func holders(s api.Sale, lot int) []int {
	l := s.Lots[lot]
	if l.Day == 0 {
		return []int{s.Stud.Firsts[l.Bird]}
	}
	who, e := owners.Owners(s.Stud, l.Day-1, l.Bird)
	if e != api.OK {
		panic("nobody can own a bird")
	}
	return who
}

// randomSale returns a valid sale with few birds, members, days and prices, in which most of the sellers can own what
// they sell, most bids are near the others, and deeds and bids stand in any order, some of them twice.
func randomSale(r *rand.Rand) api.Sale {
	unit := []int{1, 7, 1111}[r.Intn(3)]
	s := api.Sale{Stud: randomStud(r), Step: 1 + r.Intn(3*unit), Extra: r.Intn(5), Mille: min(1000, r.Intn(1200))}
	if len(s.Stud.Flock.Birds) == 0 {
		return s
	}
	for range 1 + r.Intn(4) {
		s.Lots = append(s.Lots, randomLot(r, s, unit))
	}
	for _, id := range r.Perm(lastId + 1)[:r.Intn(lastId)] {
		s.Bids = append(s.Bids, randomBid(r, s, id, unit))
	}
	for range r.Intn(1 + len(s.Bids)/2) {
		s.Bids = append(s.Bids, s.Bids[r.Intn(len(s.Bids))])
	}
	for range r.Intn(4) * r.Intn(2) {
		s.Recalled = append(s.Recalled, r.Intn(lastId+1))
	}
	shuffle(r, s)
	return s
}

func randomLot(r *rand.Rand, s api.Sale, unit int) api.Lot {
	open := r.Intn(8)
	l := lot(r.Intn(len(s.Stud.Firsts)), r.Intn(lastMember+1), r.Intn(lastDay+1), open, open+r.Intn(9), unit*(1+r.Intn(4)))
	if r.Intn(4) > 0 {
		s.Lots = []api.Lot{l}
		who := holders(s, 0)
		l.Seller = who[r.Intn(len(who))]
	}
	return l
}

func randomBid(r *rand.Rand, s api.Sale, id, unit int) api.Bid {
	n := r.Intn(min(3, len(s.Lots)))
	l := s.Lots[n]
	at := r.Intn(lastMinute + 1)
	if r.Intn(3) > 0 {
		at = l.Open + r.Intn(l.Close-l.Open+3)
	}
	return bid(id, at, n, r.Intn(lastMember+1), unit*(1+r.Intn(10)))
}

// randomStud returns a valid stud with few birds, members and rings, without too many truths, most of whose deeds pass
// a bird.
func randomStud(r *rand.Rand) api.Stud {
	var s api.Stud
	for range r.Intn(6) {
		s.Flock.Birds = append(s.Flock.Birds, bird(min(r.Intn(lastRing+1), r.Intn(lastRing+1)), 1+r.Intn(2)))
		s.Firsts = append(s.Firsts, r.Intn(lastMember-1))
	}
	if len(s.Flock.Birds) == 0 {
		return s
	}
	for _, id := range r.Perm(lastId + 1)[:r.Intn(7)] {
		s.Deeds = append(s.Deeds, deed(id, r.Intn(lastDay), 0, 0, r.Intn(lastMember)))
	}
	slices.SortFunc(s.Deeds, func(a, b api.Deed) int { return cmp.Or(a.Day-b.Day, a.Id-b.Id) })
	now := slices.Clone(s.Firsts)
	for i := range s.Deeds {
		bird := r.Intn(len(now))
		s.Deeds[i].Ring, s.Deeds[i].From = s.Flock.Birds[bird].Ring, now[bird]
		now[bird] = s.Deeds[i].To
	}
	for _, d := range s.Deeds {
		if r.Intn(6) == 0 {
			s.Deeds = append(s.Deeds, d)
		}
		if r.Intn(10) == 0 {
			s.Voided = append(s.Voided, d.Id)
		}
	}
	return s
}

// shuffle puts all messages of a sale into another order.
func shuffle(r *rand.Rand, s api.Sale) {
	mix(r, s.Stud.Deeds)
	mix(r, s.Stud.Voided)
	mix(r, s.Bids)
	mix(r, s.Recalled)
}

func mix[T any](r *rand.Rand, l []T) {
	r.Shuffle(len(l), func(i, j int) { l[i], l[j] = l[j], l[i] })
}
