package sales

import (
	"cmp"
	"slices"

	"squeaker/api"
	"squeaker/owners"
)

// A hall is a valid sale, and the bids that count, by their Ids.
type hall struct {
	api.Sale
	counted map[int]api.Bid
}

// question returns the hall of a sale, for a question whose arguments are as described, or are not.
func question(s api.Sale, described bool) (*hall, api.Errno) {
	if e := Check(s); e != api.OK {
		return nil, e
	}
	if _, e := owners.Truths(s.Stud, 0); e != api.OK {
		return nil, e
	}
	if !described {
		return nil, api.ErrArg
	}
	h := &hall{Sale: s, counted: map[int]api.Bid{}}
	for _, b := range s.Bids {
		h.counted[b.Id] = b
	}
	for _, id := range s.Recalled {
		delete(h.counted, id)
	}
	return h, api.OK
}

// auction returns the auction of a lot after all bids of the minutes up to one.
func (h *hall) auction(lot, minute int) auction {
	var bids []api.Bid
	for _, b := range h.counted {
		if b.Lot == lot && b.At <= minute {
			bids = append(bids, b)
		}
	}
	slices.SortFunc(bids, func(a, b api.Bid) int {
		return cmp.Or(cmp.Compare(a.At, b.At), cmp.Compare(a.Id, b.Id))
	})
	return hold(h.Lots[lot], bids, h.Extra)
}

// outcome returns what became of a lot.
func (h *hall) outcome(lot int) api.Outcome {
	a := h.auction(lot, api.MaxTime)
	winner, price, e := a.leader(h.Step)
	if e != api.OK {
		return api.Outcome{State: api.Unsold}
	}
	if !h.isOwned(a.Lot) {
		return api.Outcome{State: api.Doubtful}
	}
	fee := price * h.Mille / whole
	return api.Outcome{State: api.Passed, Winner: winner, Price: price, Fee: fee, Rest: price - fee}
}

// isOwned tells whether the seller of a lot surely owns its bird before the day of the deed.
func (h *hall) isOwned(l api.Lot) bool {
	if l.Day == 0 {
		return h.Stud.Firsts[l.Bird] == l.Seller
	}
	owner, e := owners.Owner(h.Stud, l.Day-1, l.Bird)
	return e == api.OK && owner == l.Seller
}

// sold yields all lots that are sold, in their order, with what became of them.
func (h *hall) sold(yield func(l api.Lot, o api.Outcome) bool) {
	for lot, l := range h.Lots {
		if o := h.outcome(lot); o.State == api.Passed && !yield(l, o) {
			return
		}
	}
}

// nextId returns the first Id above those of all deeds of the stud.
func (h *hall) nextId() int {
	id := 0
	for _, d := range h.Stud.Deeds {
		id = max(id, d.Id+1)
	}
	return id
}
