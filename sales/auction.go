package sales

import (
	"cmp"
	"slices"

	"squeaker/api"
)

// An auction is a lot, the bids for it that were taken so far, in the order in which they were heard, and the minute at
// which it ends then.
type auction struct {
	api.Lot
	taken []api.Bid
	ends  int
}

// hold returns the auction of a lot after some bids for it, in the order in which they are heard, each of which keeps
// it open for some minutes if it is taken.
func hold(l api.Lot, bids []api.Bid, extra int) auction {
	a := auction{Lot: l, ends: l.Close}
	for _, b := range bids {
		if a.takes(b) {
			a.taken = append(a.taken, b)
			a.ends = max(a.ends, b.At+extra)
		}
	}
	return a
}

// takes tells whether a bid is taken if it is heard next.
func (a auction) takes(b api.Bid) bool {
	return b.Limit >= a.Reserve && b.Member != a.Seller && isIn(b.At, a.Open, a.ends) &&
		b.Limit > a.greatest(func(member int) bool { return member == b.Member })
}

// greatest returns the greatest limit that was taken of some members, 0 if there is none.
func (a auction) greatest(of func(member int) bool) int {
	limit := 0
	for _, b := range a.taken {
		if of(b.Member) {
			limit = max(limit, b.Limit)
		}
	}
	return limit
}

// leader returns the leader and the price, which is a step above what another member bids. ErrNone if no bid was taken.
func (a auction) leader(step int) (member, price int, e api.Errno) {
	if len(a.taken) == 0 {
		return 0, 0, api.ErrNone
	}
	// Of several bids with the greatest limit this is the first one.
	best := slices.MaxFunc(a.taken, func(a, b api.Bid) int { return cmp.Compare(a.Limit, b.Limit) })
	next := a.greatest(func(member int) bool { return member != best.Member })
	if next == 0 {
		return best.Member, a.Reserve, api.OK
	}
	// No limit that was taken is below the reserve, and so the price is not.
	return best.Member, min(next+step, best.Limit), api.OK
}
