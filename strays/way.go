package strays

import "squeaker/api"

// never is later than all days.
const never = api.MaxDay + 1

// homeOf returns the place of the home of a member, and whether there is one.
func (o *office) homeOf(member int) (place int, ok bool) {
	for _, h := range o.Homes {
		if h.Member == member {
			return h.Place, true
		}
	}
	return 0, false
}

// way returns the first day on which a bird that is at a place on a day can be at another one, never if it cannot.
func (o *office) way(from, day, to int) int {
	var first [api.MaxPlaces]int
	for place := range first {
		first[place] = never
	}
	first[from] = day
	// A bird that is as early as can be comes to no place twice, and so goes with fewer carriers than there are places.
	for range o.Places {
		for _, c := range o.Carriers {
			first[c.To] = min(first[c.To], leaves(c, first[c.From])+c.Takes)
		}
	}
	return first[to]
}

// leaves returns the first day, from a day on, on which a carrier leaves.
func leaves(c api.Carrier, day int) int {
	if day <= c.First {
		return c.First
	}
	rides := (day - c.First + c.Every - 1) / c.Every
	return c.First + rides*c.Every
}
