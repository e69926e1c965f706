package baskets_test

import (
	"math/rand"
	"slices"

	"squeaker/api"
)

// happening returns the acts that count, in the order in which they happen, as the chapter says: minute by minute, Id by
// Id, each once.
func happening(c api.Convoy) []api.Act {
	var out []api.Act
	for at := range c.End + 1 {
		for id := range api.MaxMember + 1 {
			i := slices.IndexFunc(c.Acts, func(a api.Act) bool { return a.At == at && a.Id == id })
			if i >= 0 {
				out = append(out, c.Acts[i])
			}
		}
	}
	return out
}

// last returns the last of some acts that is as it must be.
func last(acts []api.Act, is func(a api.Act) bool) (api.Act, bool) {
	for i := len(acts) - 1; i >= 0; i-- {
		if is(acts[i]) {
			return acts[i], true
		}
	}
	return api.Act{}, false
}

// basketOf returns the basket in which a bird is after some acts, -1 if it is in none.
func basketOf(acts []api.Act, bird int) int {
	a, ok := last(acts, func(a api.Act) bool { return a.Kind <= api.TakeOut && a.Bird == bird })
	if !ok || a.Kind == api.TakeOut {
		return -1
	}
	return a.Basket
}

// sealOf returns the number of the seal of a basket after some acts, and the looks at it, from the sealing on; 0 if it is
// not sealed.
func sealOf(acts []api.Act, basket int) (seal int, looks []api.Act) {
	for _, a := range acts {
		switch {
		case a.Basket != basket:
		case a.Kind == api.SealUp:
			seal, looks = a.Seal, []api.Act{a}
		case a.Kind == api.LookAt:
			looks = append(looks, a)
		case a.Kind == api.Unseal:
			seal, looks = 0, nil
		}
	}
	return seal, looks
}

// outOfPlace tells whether an act is out of place after others that are in their places.
func outOfPlace(before []api.Act, a api.Act) bool {
	seal, looks := sealOf(before, a.Basket)
	switch a.Kind {
	case api.MarkIn:
		return basketOf(before, a.Bird) >= 0 || seal > 0
	case api.TakeOut:
		return basketOf(before, a.Bird) != a.Basket || seal > 0
	case api.SealUp:
		return seal > 0
	}
	if seal == 0 {
		return true
	}
	otherBefore := slices.ContainsFunc(looks, func(l api.Act) bool { return l.Seal != seal })
	if a.Seal == seal {
		return otherBefore
	}
	return !otherBefore && slices.ContainsFunc(looks, func(l api.Act) bool { return l.At == a.At })
}

// inPlace tells whether the acts of a valid convoy do not clash, and none of them is out of place.
func inPlace(c api.Convoy) bool {
	byId := map[int]api.Act{}
	for _, a := range c.Acts {
		if first, ok := byId[a.Id]; ok && first != a {
			return false
		}
		byId[a.Id] = a
	}
	acts := happening(c)
	for i, a := range acts {
		if outOfPlace(acts[:i], a) {
			return false
		}
	}
	return true
}

// A sealing is a period: the act that seals the basket, the looks at it, the last of which may open it, the birds in it,
// and the minutes in which it is in this period after all acts.
type sealing struct {
	api.Act
	looks   []api.Act
	birds   []int
	minutes []int
}

// sealings returns all periods of a convoy.
func sealings(c api.Convoy) []sealing {
	var out []sealing
	acts := happening(c)
	for i, a := range acts {
		if a.Kind != api.SealUp {
			continue
		}
		s := sealing{Act: a}
		until := c.End + 1
		for _, b := range acts[i+1:] {
			if b.Basket == a.Basket && b.Kind >= api.LookAt {
				s.looks = append(s.looks, b)
			}
			if b.Basket == a.Basket && b.Kind == api.Unseal {
				until = b.At
				break
			}
		}
		for bird := range c.Birds {
			if basketOf(acts[:i], bird) == a.Basket {
				s.birds = append(s.birds, bird)
			}
		}
		for minute := a.At; minute < until; minute++ {
			s.minutes = append(s.minutes, minute)
		}
		out = append(out, s)
	}
	return out
}

// broken tells whether a look saw another number.
func (s sealing) broken() bool {
	return slices.ContainsFunc(s.looks, func(l api.Act) bool { return l.Seal != s.Seal })
}

// isDoubled tells whether several sealings that count have a number.
func isDoubled(c api.Convoy, seal int) bool {
	ids := map[int]bool{}
	for _, a := range c.Acts {
		if a.Kind == api.SealUp && a.Seal == seal {
			ids[a.Id] = true
		}
	}
	return len(ids) > 1
}

// openable returns the minutes in which somebody can have opened the basket in a period, word by word.
func openable(c api.Convoy, s sealing) []int {
	var out []int
	for _, minute := range s.minutes {
		refuted := minute >= c.End
		first := slices.IndexFunc(s.looks, func(l api.Act) bool { return l.Seal != s.Seal })
		if first >= 0 && minute >= s.looks[first].At {
			refuted = true
		}
		for _, l := range s.looks {
			if l.At > minute && l.Seal == s.Seal && !isDoubled(c, s.Seal) {
				refuted = true
			}
		}
		if !refuted {
			out = append(out, minute)
		}
	}
	return out
}

// spansOf returns as few spans as possible that have just some minutes.
func spansOf(minutes []int) []api.Span {
	var out []api.Span
	for minute := range api.MaxMinute + 1 {
		if !slices.Contains(minutes, minute) {
			continue
		}
		if !slices.Contains(minutes, minute-1) {
			out = append(out, span(minute, minute))
		}
		out[len(out)-1].High = minute
	}
	return out
}

// minutesOf returns all minutes of spans.
func minutesOf(spans []api.Span) []int {
	var out []int
	for _, s := range spans {
		for minute := s.Low; minute <= s.High; minute++ {
			out = append(out, minute)
		}
	}
	return out
}

// ordered returns some numbers in ascending order, each of them once.
func ordered(l []int) []int {
	l = slices.Clone(l)
	slices.Sort(l)
	return slices.Compact(l)
}

// contains tells whether all of some numbers are among others.
func contains(all, some []int) bool {
	return !slices.ContainsFunc(some, func(n int) bool { return !slices.Contains(all, n) })
}

const (
	lastSeal   = 5
	lastMember = 4
)

// An opening is that somebody opened a basket, in a minute, and whether this was before a look found it broken.
type opening struct {
	basket, minute int
	hidden, found  bool
}

// randomConvoy returns a valid convoy, with acts in their places, which stand in any order, some of them twice; and when
// somebody opened the baskets.
func randomConvoy(r *rand.Rand) (api.Convoy, []opening) {
	c := api.Convoy{Baskets: 1 + r.Intn(3), Birds: r.Intn(6)}
	c.Acts = randomActs(r, c)
	for _, a := range c.Acts {
		c.End = a.At
	}
	c.End += r.Intn(4)
	giveIds(r, c.Acts)
	openings := openBaskets(r, c)
	for range r.Intn(6) {
		from := r.Intn(c.End + 2)
		c.Duties = append(c.Duties, duty(r.Intn(lastMember+1), r.Intn(c.Baskets), from, from+r.Intn(1+r.Intn(20))))
	}
	for range r.Intn(1 + len(c.Acts)/3) {
		c.Acts = append(c.Acts, c.Acts[r.Intn(len(c.Acts))])
	}
	shuffle(r, c)
	return c, openings
}

// shuffle puts the acts and duties of a convoy into another order.
func shuffle(r *rand.Rand, c api.Convoy) {
	r.Shuffle(len(c.Acts), func(i, j int) { c.Acts[i], c.Acts[j] = c.Acts[j], c.Acts[i] })
	r.Shuffle(len(c.Duties), func(i, j int) { c.Duties[i], c.Duties[j] = c.Duties[j], c.Duties[i] })
}

// randomActs returns acts in the order in which they happen, without Ids, in which all looks see the right number.
func randomActs(r *rand.Rand, c api.Convoy) []api.Act {
	var acts []api.Act
	at := 0
	for range r.Intn(25) {
		at += r.Intn(3)
		basket := r.Intn(c.Baskets)
		seal, _ := sealOf(acts, basket)
		switch n := r.Intn(9); {
		case seal > 0 && n < 6:
			acts = append(acts, lookAt(0, at, basket, seal))
		case seal > 0:
			acts = append(acts, unseal(0, at, basket, seal))
		case c.Birds == 0 || n < 4:
			acts = append(acts, sealUp(0, at, basket, 1+r.Intn(lastSeal)))
		default:
			bird := r.Intn(c.Birds)
			if now := basketOf(acts, bird); now < 0 {
				first := r.Intn(lastMember + 1)
				acts = append(acts, markIn(0, at, basket, bird, first, (first+1+r.Intn(lastMember))%(lastMember+1)))
			} else if now == basket {
				acts = append(acts, takeOut(0, at, basket, bird))
			}
		}
	}
	return acts
}

// giveIds gives Ids to acts with which they happen in the order in which they stand.
func giveIds(r *rand.Rand, acts []api.Act) {
	ids := r.Perm(api.MaxMember + 1)
	for i := 0; i < len(acts); {
		end := i
		for end < len(acts) && acts[end].At == acts[i].At {
			end++
		}
		slices.Sort(ids[i:end])
		for ; i < end; i++ {
			acts[i].Id = ids[i]
		}
	}
}

// openBaskets lets somebody open baskets, and all looks see what is there then. Who opens a basket can seal it again with
// another seal, if there is one with the same number.
func openBaskets(r *rand.Rand, c api.Convoy) []opening {
	var out []opening
	for _, s := range sealings(c) {
		if r.Intn(2) == 0 {
			continue
		}
		resealed := map[int]bool{}
		for _, minute := range s.minutes {
			if minute < c.End && r.Intn(5) == 0 {
				resealed[minute] = isDoubled(c, s.Seal) && r.Intn(3) > 0
			}
		}
		found := letSee(r, c, s, resealed)
		for minute := range resealed {
			out = append(out, opening{s.Basket, minute, minute < found, found <= c.End})
		}
	}
	return out
}

// letSee changes what the looks of a period see, if the basket was opened in some minutes, and sealed again or not. It
// returns the minute in which the seal was found broken, one after the end if it was not.
func letSee(r *rand.Rand, c api.Convoy, s sealing, resealed map[int]bool) int {
	found := c.End + 1
	for _, l := range s.looks {
		whole := found > c.End
		for minute := range l.At {
			if again, opened := resealed[minute]; opened && minute < found {
				whole = again
			}
		}
		if whole && found > c.End {
			continue
		}
		found = min(found, l.At)
		i := slices.Index(c.Acts, l)
		c.Acts[i].Seal = []int{0, (s.Seal + 1 + r.Intn(lastSeal-1)) % (lastSeal + 1), api.MaxSeal}[r.Intn(3)]
		if c.Acts[i].Seal == s.Seal {
			c.Acts[i].Seal = 0
		}
	}
	return found
}

// spoil changes something in the acts of a convoy, which stays valid.
func spoil(r *rand.Rand, c api.Convoy) {
	i := r.Intn(len(c.Acts))
	a := &c.Acts[i]
	switch n := r.Intn(6); {
	case n == 0:
		a.At = r.Intn(c.End + 1)
	case n == 1:
		a.At = max(0, min(c.End, a.At+r.Intn(3)-1))
	case n == 2:
		a.Basket = r.Intn(c.Baskets)
	case n == 3:
		a.Id = r.Intn(api.MaxMember + 1)
	case a.Kind <= api.TakeOut:
		a.Bird = r.Intn(c.Birds)
	case a.Kind == api.SealUp:
		a.Seal = 1 + r.Intn(lastSeal)
	case n == 4:
		a.Kind = api.LookAt + api.Unseal - a.Kind
	default:
		a.Seal = r.Intn(lastSeal + 1)
	}
}
