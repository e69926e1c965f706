package baskets

import (
	"cmp"
	"slices"

	"squeaker/api"
)

// A period is a basket with a seal: the minute of the sealing, the last one in which the seal was seen whole, the one
// before which anybody who opened the basket did so, and whether a look saw another number.
type period struct {
	basket, seal     int
	from, whole, end int
	broken           bool
}

// A journey is a valid convoy, its acts that have happened, each once, its periods in the order of their beginnings, and
// the one in which each sealed basket is.
type journey struct {
	api.Convoy
	past    []api.Act
	periods []*period
	sealed  map[int]*period
}

// question returns the journey of a convoy, for a question whose other arguments are as described, or are not.
func question(c api.Convoy, described bool) (*journey, api.Errno) {
	j, e := follow(c)
	if e != api.OK {
		return nil, e
	}
	if !described {
		return nil, api.ErrArg
	}
	return j, api.OK
}

// follow returns the journey of a convoy after all acts.
func follow(c api.Convoy) (*journey, api.Errno) {
	if !validConvoy(c) {
		return nil, api.ErrConvoy
	}
	if clash(c.Acts) {
		return nil, api.ErrAct
	}
	j := &journey{Convoy: c, sealed: map[int]*period{}}
	for _, a := range counted(c.Acts) {
		if !j.happen(a) {
			return nil, api.ErrAct
		}
		j.past = append(j.past, a)
	}
	return j, api.OK
}

// counted returns acts that do not clash, each once, in the order in which they happen.
func counted(acts []api.Act) []api.Act {
	return slices.Compact(slices.SortedFunc(slices.Values(acts), func(a, b api.Act) int {
		return cmp.Or(cmp.Compare(a.At, b.At), cmp.Compare(a.Id, b.Id))
	}))
}

// happen lets an act happen after the past ones, and tells whether it is in its place.
func (j *journey) happen(a api.Act) bool {
	now, sealed := j.sealed[a.Basket]
	switch a.Kind {
	case api.MarkIn:
		return !sealed && j.where(a.At, a.Bird) < 0
	case api.TakeOut:
		return !sealed && j.where(a.At, a.Bird) == a.Basket
	case api.SealUp:
		if !sealed {
			j.sealUp(a)
		}
		return !sealed
	}
	return sealed && j.look(now, a)
}

// sealUp begins a period.
func (j *journey) sealUp(a api.Act) {
	p := &period{basket: a.Basket, seal: a.Seal, from: a.At, whole: a.At, end: j.End}
	j.periods = append(j.periods, p)
	j.sealed[a.Basket] = p
}

// look lets somebody look at a sealed basket, or open it, and tells whether the look can see what it sees.
func (j *journey) look(p *period, a api.Act) bool {
	if a.Kind == api.Unseal {
		p.end = min(p.end, a.At)
		delete(j.sealed, p.basket)
	}
	if a.Seal == p.seal {
		p.whole = a.At
		return !p.broken
	}
	if p.broken {
		return true
	}
	p.broken, p.end = true, a.At
	return p.whole < a.At
}

// where returns the basket in which a bird is after the past acts of the minutes up to one, -1 if it is in none.
func (j *journey) where(minute, bird int) int {
	basket := -1
	for _, a := range j.past {
		switch {
		case a.At > minute || a.Bird != bird:
		case a.Kind == api.MarkIn:
			basket = a.Basket
		case a.Kind == api.TakeOut:
			basket = -1
		}
	}
	return basket
}

// openings returns the minutes of a period in which somebody can have opened its basket. Low is above High if there are
// none.
func (j *journey) openings(p *period) api.Span {
	can := api.Span{Low: p.whole, High: p.end - 1}
	if j.doubled(p.seal) {
		can.Low = p.from
	}
	return can
}

// doubled tells whether several sealings have a number. If so, a look that saw it may have seen another seal.
func (j *journey) doubled(seal int) bool {
	sealings := 0
	for _, p := range j.periods {
		if p.seal == seal {
			sealings++
		}
	}
	return sealings > 1
}

// broken returns the broken periods.
func (j *journey) broken() []*period {
	return slices.DeleteFunc(slices.Clone(j.periods), func(p *period) bool { return !p.broken })
}

// struck returns the birds that were in the baskets of some periods when somebody can have opened them.
func (j *journey) struck(periods []*period) []int {
	return numbers(j.Birds, func(bird int) bool {
		return slices.ContainsFunc(periods, func(p *period) bool {
			can := j.openings(p)
			return can.Low <= can.High && j.where(can.Low, bird) == p.basket
		})
	})
}

// guarded tells whether a member guarded the basket of a period when somebody can have opened it.
func (j *journey) guarded(p *period, member int) bool {
	can := j.openings(p)
	return slices.ContainsFunc(j.Duties, func(d api.Duty) bool {
		return d.Member == member && d.Basket == p.basket && max(d.From, can.Low) <= min(d.To, can.High)
	})
}

// numbers returns those of the numbers below n that are as they must be, in ascending order.
func numbers(n int, is func(int) bool) []int {
	var out []int
	for i := range n {
		if is(i) {
			out = append(out, i)
		}
	}
	return out
}
