package secretary

import (
	"slices"

	"squeaker/api"
	"squeaker/clocks"
	"squeaker/owners"
	"squeaker/prizes"
)

// owner asks who surely owns a bird.
func (d *desk) owner(n []int) string {
	member, e := owners.Owner(d.Club.Stud, d.Day, n[0])
	return told(e, member)
}

// who asks which members can own a bird.
func (d *desk) who(n []int) string {
	members, e := owners.Owners(d.Club.Stud, d.Day, n[0])
	return told(e, members...)
}

// has asks which birds a member surely owns, and which ones perhaps.
func (d *desk) has(n []int) string {
	sure, may, e := owners.Birds(d.Club.Stud, d.Day, n[0])
	if e != api.OK {
		return told(e)
	}
	return told(e, sure...) + " / " + told(e, may...)
}

// ring asks which members can own a bird with a ring.
func (d *desk) ring(n []int) string {
	members, e := owners.Ring(d.Club.Stud, d.Day, n[0])
	return told(e, members...)
}

// when asks for the moment of a number on a clock.
func (d *desk) when(n []int) string {
	c, ok := d.clock(n[0])
	if !ok {
		return refused
	}
	moment, e := clocks.When(c, n[1])
	return told(e, moment.Low, moment.High)
}

// home asks when the bird came home that was clocked by a clock at a number, and up to so many seconds late.
func (d *desk) home(n []int) string {
	c, ok := d.clock(n[0])
	if !ok {
		return refused
	}
	home, e := clocks.Home(c, api.Clocking{Shown: n[1], Late: n[2]})
	return told(e, home.Low, home.High)
}

// clock returns the clock with a number, if there is one.
func (d *desk) clock(n int) (api.Clock, bool) {
	if n >= len(d.Club.Clocks) {
		return api.Clock{}, false
	}
	return d.Club.Clocks[n], true
}

// pot asks what is in a pool.
func (d *desk) pot(n []int) string {
	pot, e := prizes.Pot(d.Club.Race, n[0])
	return told(e, pot.Total, pot.Cut, pot.Left, pot.Rest)
}

// prize asks what a bird has won in a pool, and what goes back.
func (d *desk) prize(n []int) string {
	list, e := prizes.Prizes(d.Club.Race, n[0])
	at := slices.IndexFunc(list, func(p api.Prize) bool { return p.Bird == n[1] })
	if e != api.OK || at < 0 {
		return refused
	}
	return told(e, list[at].Won, list[at].Back)
}

// can asks how much a bird can win in a pool.
func (d *desk) can(n []int) string {
	can, e := prizes.Can(d.Club.Race, n[0], n[1])
	return told(e, can.Low, can.High)
}

// purse asks what an owner has staked, and is paid.
func (d *desk) purse(n []int) string {
	purses, e := prizes.Purses(d.Club.Race)
	at := slices.IndexFunc(purses, func(p api.Purse) bool { return p.Owner == n[0] })
	if at < 0 {
		return nothing
	}
	return told(e, purses[at].Staked, purses[at].Paid)
}
