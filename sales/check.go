package sales

import (
	"slices"

	"squeaker/api"
)

// whole is the number of thousandths of a price.
const whole = 1000

// validSale tells whether a sale with a valid stud is valid.
func validSale(s api.Sale) bool {
	return len(s.Lots) <= api.MaxLots && each(s.Lots, func(l api.Lot) bool { return validLot(s, l) }) &&
		len(s.Bids) <= api.MaxBids && each(s.Bids, func(b api.Bid) bool { return validBid(s, b) }) &&
		len(s.Recalled) <= api.MaxBids && each(s.Recalled, isMember) &&
		isPrice(s.Step) && isIn(s.Extra, 0, api.MaxExtra) && isIn(s.Mille, 0, whole)
}

func validLot(s api.Sale, l api.Lot) bool {
	return isIn(l.Bird, 0, len(s.Stud.Flock.Birds)-1) && isMember(l.Seller) && isIn(l.Day, 0, api.MaxDay) &&
		isTime(l.Close) && isIn(l.Open, 0, l.Close) && isPrice(l.Reserve)
}

// validBid tells whether a bid is valid in a sale. Its Id has the limit of members.
func validBid(s api.Sale, b api.Bid) bool {
	return isMember(b.Id) && isTime(b.At) && isLot(s, b.Lot) && isMember(b.Member) && isPrice(b.Limit)
}

// clash tells whether two bids with the same Id are not equal.
func clash(bids []api.Bid) bool {
	first := map[int]api.Bid{}
	return !each(bids, func(b api.Bid) bool {
		before, ok := first[b.Id]
		first[b.Id] = b
		return !ok || before == b
	})
}

// each tells whether all elements of a list are as they must be.
func each[T any](list []T, is func(T) bool) bool {
	return !slices.ContainsFunc(list, func(one T) bool { return !is(one) })
}

func isLot(s api.Sale, n int) bool { return isIn(n, 0, len(s.Lots)-1) }

func isMember(n int) bool { return isIn(n, 0, api.MaxMember) }

func isTime(n int) bool { return isIn(n, 0, api.MaxTime) }

func isPrice(n int) bool { return isIn(n, 1, api.MaxPrice) }

func isIn(n, low, high int) bool { return low <= n && n <= high }
