package secretary

import (
	"slices"

	"squeaker/api"
	"squeaker/clocks"
	"squeaker/owners"
	"squeaker/prizes"
)

// day goes on to a day.
func (d *desk) day(n []int) string {
	if n[0] < d.Day || n[0] > api.MaxDay {
		return refused
	}
	d.Day = n[0]
	return done
}

// deed adds a deed of the day with an Id, a ring, and two members.
func (d *desk) deed(n []int) string {
	return d.merge([]api.Deed{{Id: n[0], Day: d.Day, Ring: n[1], From: n[2], To: n[3]}}, nil)
}

// recall recalls the deed with an Id.
func (d *desk) recall(n []int) string { return d.merge(nil, n) }

// merge adds deeds and recalls to the stud, unless that is an error.
func (d *desk) merge(more []api.Deed, voided []int) string {
	stud, e := owners.Merge(d.Club.Stud, more, voided)
	if e != api.OK {
		return refused
	}
	d.Club.Stud = stud
	return done
}

// strike adds a strike to a clock, at a real time, that was shown from a number to another one.
func (d *desk) strike(n []int) string {
	c, ok := d.clock(n[0])
	if !ok {
		return refused
	}
	c.Strikes = append(c.Strikes, api.Strike{At: n[1], Shown: api.Span{Low: n[2], High: n[3]}})
	truths, e := clocks.Many(c)
	if e != api.OK {
		return refused
	}
	if truths == 0 {
		return untrue
	}
	d.Club.Clocks[n[0]] = c
	return done
}

// enter adds a bird of an owner to the race.
func (d *desk) enter(n []int) string {
	return d.change(func(r *api.Race) { r.Racers = append(r.Racers, api.Racer{Bird: n[0], Owner: n[1]}) })
}

// name nominates a bird for a pool. It cannot be there twice, as the pools of a racer are strictly ascending.
func (d *desk) name(n []int) string {
	return d.changeRacer(n[0], func(x *api.Racer) { x.Pools = put(x.Pools, n[1]) })
}

// rank gives a bird a rank of a day.
func (d *desk) rank(n []int) string {
	return d.changeRacer(n[0], func(x *api.Racer) { x.Rank, x.Day = n[1], n[2] })
}

// protest adds a protest against a bird. It cannot be there twice, as protests are strictly ascending.
func (d *desk) protest(n []int) string {
	return d.change(func(r *api.Race) { r.Protests = put(r.Protests, n[0]) })
}

// settle ends the protest against a bird, which is upheld if the other number is 1, and is not if it is 0.
func (d *desk) settle(n []int) string {
	bird, upheld := n[0], n[1]
	at, ok := slices.BinarySearch(d.Club.Race.Protests, bird)
	if !ok || upheld > 1 {
		return refused
	}
	d.Club.Race.Protests = slices.Delete(d.Club.Race.Protests, at, at+1)
	if upheld == 1 {
		return d.rank([]int{bird, 0, 0})
	}
	return done
}

// change changes the race, unless it would not be valid.
func (d *desk) change(what func(r *api.Race)) string {
	r := copiedRace(d.Club.Race)
	what(&r)
	if prizes.Check(r) != api.OK {
		return refused
	}
	d.Club.Race = r
	return done
}

// changeRacer changes a bird of the race, if there is such a one, unless the race would not be valid.
func (d *desk) changeRacer(bird int, what func(x *api.Racer)) string {
	at := slices.IndexFunc(d.Club.Race.Racers, func(x api.Racer) bool { return x.Bird == bird })
	if at < 0 {
		return refused
	}
	return d.change(func(r *api.Race) { what(&r.Racers[at]) })
}

// put returns ascending numbers with one more, in its place.
func put(list []int, n int) []int {
	at, _ := slices.BinarySearch(list, n)
	return slices.Insert(list, at, n)
}
