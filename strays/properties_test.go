package strays_test

import (
	"fmt"
	"maps"
	"math/rand"
	"reflect"
	"slices"
	"testing"

	"squeaker/api"
	"squeaker/owners"
	"squeaker/rings"
	"squeaker/sales"
	"squeaker/strays"
)

const rounds = 600

// eachPound gives a test many pounds, always the same ones.
func eachPound(t *testing.T, test func(r *rand.Rand, p api.Pound)) {
	t.Helper()
	r := rand.New(rand.NewSource(13))
	for range rounds {
		p := randomPound(r)
		if e := strays.Check(p); e != api.OK {
			t.Fatalf("Check has the error %d of %+v", e, p)
		}
		before := copied(p)
		test(r, p)
		if !reflect.DeepEqual(before, p) {
			t.Errorf("the pound is changed")
		}
		if t.Failed() {
			t.Fatalf("the pound: %+v", before)
		}
	}
}

// eachFind gives a test each find that is not strange of many pounds that have a truth.
func eachFind(t *testing.T, test func(r *rand.Rand, p api.Pound, f api.Find)) {
	t.Helper()
	eachPound(t, func(r *rand.Rand, p api.Pound) {
		finds, _ := known(p)
		for _, id := range slices.Sorted(maps.Keys(finds)) {
			if _, e := strays.Birds(p, id); e == api.OK {
				test(r, p, finds[id])
			}
		}
	})
}

// A tally counts how often something was so, to be sure that a test meets it.
type tally map[string]int

func (c tally) note(what string, is bool) {
	if is {
		c[what]++
	}
}

// expect checks that as many things were noted, each often enough.
func (c tally) expect(t *testing.T, kinds, least int) {
	t.Helper()
	if len(c) < kinds || slices.Min(slices.Collect(maps.Values(c))) < least {
		t.Fatalf("so often there was: %v", c)
	}
}

// answers returns what a pound answers to all questions, also to some that may not be asked.
func answers(p api.Pound) map[string]answer {
	out := map[string]answer{}
	for _, f := range append(p.Finds, api.Find{Id: -1}) {
		for name, a := range ask(p, question{find: f.Id, other: f.Id, member: -1}) {
			out[fmt.Sprint(name, " of ", f.Id)] = a
		}
		for _, g := range p.Finds {
			same, e := strays.Same(p, f.Id, g.Id)
			out[fmt.Sprint("Same of ", f.Id, " and ", g.Id)] = answer{[]any{same}, e}
		}
	}
	for _, day := range []int{0, 3, 8, lastDay, api.MaxDay - 9, api.MaxDay} {
		for place := range p.Places {
			for member := range lastMember + 2 {
				way, e := strays.Way(p, place, day, member)
				out[fmt.Sprint("Way from ", place, " on ", day, " to ", member)] = answer{[]any{way}, e}
			}
		}
	}
	return out
}

// expectEqual checks that two pounds answer the same.
func expectEqual(t *testing.T, name string, a, b api.Pound) {
	t.Helper()
	was, is := answers(a), answers(b)
	for q := range was {
		if !reflect.DeepEqual(was[q], is[q]) {
			t.Errorf("%s: %s = %v, and was %v: %+v", name, q, is[q], was[q], b)
		}
	}
}

// birdsOf returns the birds of a find, and fails if there is an error.
func birdsOf(t *testing.T, p api.Pound, id int) []int {
	t.Helper()
	birds, e := strays.Birds(p, id)
	if e != api.OK {
		t.Fatalf("Birds of %d has the error %d: %+v", id, e, p)
	}
	return birds
}

// leadsOf returns the leads of a find, and fails if there is an error.
func leadsOf(t *testing.T, p api.Pound, id int) []int {
	t.Helper()
	leads, e := strays.Leads(p, id)
	if e != api.OK {
		t.Fatalf("Leads of %d has the error %d: %+v", id, e, p)
	}
	return leads
}

// doubtOf returns the doubt of a find, and fails if there is an error.
func doubtOf(t *testing.T, p api.Pound, id int) int {
	t.Helper()
	doubt, e := strays.Doubt(p, id)
	if e != api.OK {
		t.Fatalf("Doubt of %d has the error %d: %+v", id, e, p)
	}
	return doubt
}

// isWithin tells whether all elements of a list are in another one.
func isWithin(few, many []int) bool {
	return !slices.ContainsFunc(few, func(one int) bool { return !slices.Contains(many, one) })
}

// TestModel: P13.2 to P13.6 and P13.8, everything is what the definitions say, truth by truth.
func TestModel(t *testing.T) {
	seen := tally{}
	eachPound(t, func(_ *rand.Rand, p api.Pound) {
		finds, strange := known(p)
		expectStrange(t, "the model", p, slices.Sorted(maps.Keys(strange))...)
		all := worlds(p)
		for id, f := range finds {
			seen.note("no truth", len(all) == 0)
			if len(all) == 0 {
				none := errors(api.OK, "Check", "Strange")
				none["Way"] = api.ErrArg
				expectErrors(t, "the model", ask(p, question{find: id, other: id, member: -1}), api.ErrNone, none)
				continue
			}
			var birds []int
			for i := range p.Stud.Flock.Birds {
				if slices.ContainsFunc(all, func(w world) bool { return w[id] == i }) {
					birds = append(birds, i)
				}
			}
			leads := modelLeads(p, birds, f.Day)
			doubt := modelDoubt(p, birds, leads)
			expectFinds(t, "the model", p, wanted{id, birds, leads, doubt})
			due, e := modelDue(p, f, leads)
			expectDue(t, "the model", p, id, due, e)
			seen.note(fmt.Sprint("the doubt ", doubt), true)
			seen.note("fewer birds than it fits", len(birds) < len(modelFits(p, f)))
			seen.note("several days", e == api.OK && due.Low < due.High)
			seen.note(fmt.Sprint("Due with the error ", e), true)
			for other := range finds {
				same := modelSame(all, id, other)
				expectSame(t, "the model", p, id, other, same)
				seen.note(fmt.Sprint("the same, ", same), id != other)
			}
		}
	})
	seen.expect(t, 13, rounds/40)
}

// modelSame returns whether two finds are the same in all of some truths, in some, or in none.
func modelSame(all []world, a, b int) int {
	same := 0
	for _, w := range all {
		if w[a] == w[b] {
			same++
		}
	}
	switch same {
	case len(all):
		return api.Surely
	case 0:
		return api.Never
	}
	return api.Perhaps
}

// modelDue returns the first and the last day on which the bird of a find can be with its leads, or the error.
func modelDue(p api.Pound, f api.Find, leads []int) (api.Span, api.Errno) {
	homes := homesOf(p)
	if slices.ContainsFunc(leads, func(member int) bool { _, ok := homes[member]; return !ok }) {
		return api.Span{}, api.ErrArg
	}
	var days []int
	for _, member := range leads {
		days = append(days, modelWay(p, f.Place, f.Day, homes[member]))
	}
	slices.Sort(days)
	if days[0] < 0 {
		return api.Span{}, api.ErrNone
	}
	return span(days[0], days[len(days)-1]), api.OK
}

// TestWayModel: P13.7, day by day.
func TestWayModel(t *testing.T) {
	seen := tally{}
	eachPound(t, func(r *rand.Rand, p api.Pound) {
		for member, to := range homesOf(p) {
			for from := range p.Places {
				day := []int{r.Intn(2 * lastDay), api.MaxDay - r.Intn(2*lastDay)}[r.Intn(2)]
				want := modelWay(p, from, day, to)
				got, e := strays.Way(p, from, day, member)
				if want < 0 && (e != api.ErrNone || got != 0) || want >= 0 && (got != want || e != api.OK) {
					t.Errorf("Way from %d on %d to %d = %d, %d, not %d", from, day, member, got, e, want)
				}
				seen.note("none", want < 0)
				seen.note("at home", want == day)
				seen.note("some days", want > day)
				seen.note("many days", want > day+20)
				seen.note("around", want > day && !slices.ContainsFunc(p.Carriers, func(c api.Carrier) bool { return c.From == from && c.To == to }))
			}
		}
	})
	seen.expect(t, 5, rounds/20)
}

// TestSameAgain: P1, a result depends on nothing but the arguments.
func TestSameAgain(t *testing.T) {
	eachPound(t, func(_ *rand.Rand, p api.Pound) { expectEqual(t, "again", p, copied(p)) })
}

// TestMemory: R4, a result shares no memory with the argument.
func TestMemory(t *testing.T) {
	eachFind(t, func(_ *rand.Rand, p api.Pound, f api.Find) {
		for _, list := range [][]int{birdsOf(t, p, f.Id), leadsOf(t, p, f.Id)} {
			before := copied(p)
			for i := range list {
				list[i] = -7
			}
			list = append(list, -7)
			if !reflect.DeepEqual(before, p) || len(list) == 0 {
				t.Errorf("a result shares memory with the pound")
			}
		}
	})
}

// TestEachTruth: P13.9.
func TestEachTruth(t *testing.T) {
	eachPound(t, func(_ *rand.Rand, p api.Pound) {
		all := worlds(p)
		finds, _ := known(p)
		for id, f := range finds {
			if len(all) == 0 {
				continue
			}
			birds, leads := birdsOf(t, p, id), leadsOf(t, p, id)
			for _, w := range all {
				if bird := w[id]; !slices.Contains(birds, bird) || !isWithin(holders(p.Stud, f.Day, bird), leads) {
					t.Errorf("%d means %d, but Birds is %v, and Leads %v", id, bird, birds, leads)
				}
			}
			for other := range finds {
				same, e := strays.Same(p, id, other)
				for _, w := range all {
					if e != api.OK || w[id] == w[other] && same == api.Never || w[id] != w[other] && same == api.Surely {
						t.Errorf("%d and %d mean %d and %d, but Same = %d, %d", id, other, w[id], w[other], same, e)
					}
				}
			}
		}
	})
}

// TestOneOwner: P13.10.
func TestOneOwner(t *testing.T) {
	seen := tally{}
	eachFind(t, func(_ *rand.Rand, p api.Pound, f api.Find) {
		doubled, _ := rings.Doubled(p.Stud.Flock)
		birds, leads, doubt := birdsOf(t, p, f.Id), leadsOf(t, p, f.Id), doubtOf(t, p, f.Id)
		read := !slices.Contains(f.Digits, -1)
		if read && len(doubled) == 0 && (len(birds) != 1 || len(leads) != 1 || doubt != api.NoDoubt) {
			t.Errorf("%d means %v and leads to %v, %d, though all is known", f.Id, birds, leads, doubt)
		}
		if (doubt == api.NoDoubt) != (len(leads) == 1) {
			t.Errorf("%d leads to %v, but Doubt = %d", f.Id, leads, doubt)
		}
		_, e := owners.Owner(p.Stud, f.Day, birds[0])
		why := map[int]bool{
			api.NoDoubt:     true,
			api.DoubledRing: slices.Contains(doubled, p.Stud.Flock.Birds[birds[0]].Ring),
			api.Unread:      !read,
			api.Unowned:     len(birds) == 1 && e == api.ErrNone,
		}
		if !why[doubt] {
			t.Errorf("%d leads to %v, but Doubt = %d", f.Id, leads, doubt)
		}
		seen.note("all is known", read && len(doubled) == 0)
		seen.note(fmt.Sprint("the doubt ", doubt), true)
	})
	seen.expect(t, 5, rounds/40)
}

// expectNoMore checks that no find of p that is not strange means more birds in q, or leads to more members, and notes
// whether one means fewer.
func expectNoMore(t *testing.T, seen tally, name string, p, q api.Pound) {
	t.Helper()
	finds, _ := known(p)
	for id := range finds {
		birds, e := strays.Birds(q, id)
		if e == api.ErrNone {
			seen.note(name+", and no truth is left", true)
			continue
		}
		if was := birdsOf(t, p, id); !isWithin(birds, was) || e != api.OK {
			t.Errorf("%s: Birds of %d = %v, %d, and was %v", name, id, birds, e, was)
		}
		if was := leadsOf(t, p, id); !isWithin(leadsOf(t, q, id), was) {
			t.Errorf("%s: Leads of %d = %v, and was %v", name, id, leadsOf(t, q, id), was)
		}
		seen.note(name+", and fewer birds", len(birds) < len(birdsOf(t, p, id)))
		seen.note(name+", and fewer leads", len(leadsOf(t, q, id)) < len(leadsOf(t, p, id)))
	}
}

// TestMoreIsRead: P13.11. What is read more is such that the find still fits a bird: a find that is strange means none.
func TestMoreIsRead(t *testing.T) {
	seen := tally{}
	eachFind(t, func(r *rand.Rand, p api.Pound, f api.Find) {
		fits := modelFits(p, f)
		b := p.Stud.Flock.Birds[fits[r.Intn(len(fits))]]
		ring := fmt.Sprintf("%04d", b.Ring)
		for k, d := range f.Digits {
			if d == -1 {
				expectNoMore(t, seen, "a digit", p, reading(p, f.Id, func(f *api.Find) { f.Digits[k] = int(ring[k] - '0') }))
			}
		}
		if f.Sex == 0 {
			expectNoMore(t, seen, "the sex", p, reading(p, f.Id, func(f *api.Find) { f.Sex = b.Sex }))
		}
		if len(p.Finds) < api.MaxFinds {
			more := copied(p)
			next := randomFind(r, p, lastId+1, f.Day-f.Day%7)
			next.Day = min(next.Day, api.MaxDay)
			if len(modelFits(p, next)) > 0 {
				more.Finds = slices.Insert(more.Finds, r.Intn(len(more.Finds)+1), next)
				expectNoMore(t, seen, "a find", p, more)
			}
		}
	})
	seen.expect(t, 9, rounds/150)
}

// reading returns a pound in which a find is changed wherever it is listed.
func reading(p api.Pound, id int, change func(f *api.Find)) api.Pound {
	p = copied(p)
	for i := range p.Finds {
		if p.Finds[i].Id == id {
			change(&p.Finds[i])
		}
	}
	return p
}

// TestAnyOrder: P13.12.
func TestAnyOrder(t *testing.T) {
	eachPound(t, func(r *rand.Rand, p api.Pound) {
		mixed := copied(p)
		for len(p.Finds) > 0 && len(mixed.Finds) < api.MaxFinds && r.Intn(3) > 0 {
			mixed.Finds = append(mixed.Finds, p.Finds[r.Intn(len(p.Finds))])
		}
		shuffle(r, mixed)
		expectEqual(t, "mixed", p, mixed)
	})
}

// wayOf returns a way, a day that is too late for all if there is none.
func wayOf(t *testing.T, p api.Pound, place, day, member int) int {
	t.Helper()
	way, e := strays.Way(p, place, day, member)
	if e == api.ErrNone {
		return api.MaxDay + 1
	}
	if e != api.OK || way < day || way > api.MaxDay {
		t.Fatalf("Way from %d on %d to %d = %d, %d: %+v", place, day, member, way, e, p)
	}
	return way
}

// eachWay gives a test each way from a place on a day to a member, of many pounds.
func eachWay(t *testing.T, test func(r *rand.Rand, p api.Pound, place, day, member int)) {
	t.Helper()
	eachPound(t, func(r *rand.Rand, p api.Pound) {
		for member := range homesOf(p) {
			for place := range p.Places {
				test(r, p, place, []int{r.Intn(2 * lastDay), api.MaxDay - r.Intn(2*lastDay)}[r.Intn(2)], member)
			}
		}
	})
}

// TestFirstDay: P13.13.
func TestFirstDay(t *testing.T) {
	seen := tally{}
	eachWay(t, func(r *rand.Rand, p api.Pound, place, day, member int) {
		first := wayOf(t, p, place, day, member)
		home := homesOf(p)[member]
		if place == home && first != day {
			t.Errorf("at home on %d is %d", day, first)
		}
		if day < api.MaxDay {
			later := wayOf(t, p, place, day+1, member)
			if later < first {
				t.Errorf("from %d on the day behind %d to %d it is %d, and %d", place, day, member, later, first)
			}
			seen.note("a day later", later > first)
		}
		if p.Places > 1 && len(p.Carriers) < api.MaxCarriers {
			more := copied(p)
			more.Carriers = slices.Insert(more.Carriers, r.Intn(len(more.Carriers)+1), randomCarrier(r, p, day-day%7))
			if now := wayOf(t, more, place, day, member); now > first {
				t.Errorf("from %d on %d to %d it is %d, and with %+v %d", place, day, member, first, more.Carriers, now)
			} else {
				seen.note("a day earlier", now < first)
			}
		}
		if there := wander(r, p, place, day, home); there >= 0 {
			if there < first {
				t.Errorf("from %d on %d to %d it is %d, but can be %d", place, day, member, first, there)
			}
			seen.note("by any way", place != home)
			seen.note("by a bad way", there > first)
		}
	})
	seen.expect(t, 4, rounds/20)
}

// wander returns a day on which a bird that goes with any carriers is at a place, -1 if it did not come there.
func wander(r *rand.Rand, p api.Pound, at, day, home int) int {
	for range 12 {
		if at == home && r.Intn(3) > 0 {
			break
		}
		var from []api.Carrier
		for _, c := range p.Carriers {
			if c.From == at {
				from = append(from, c)
			}
		}
		if len(from) == 0 {
			break
		}
		c := from[r.Intn(len(from))]
		leaves := c.First + c.Every*r.Intn(3)
		for leaves < day {
			leaves += c.Every
		}
		at, day = c.To, leaves+c.Takes
	}
	if at != home || day > api.MaxDay {
		return -1
	}
	return day
}

// TestOnTheWay: P13.14.
func TestOnTheWay(t *testing.T) {
	seen := tally{}
	eachWay(t, func(r *rand.Rand, p api.Pound, place, day, member int) {
		for _, c := range p.Carriers {
			leaves := c.First + c.Every*r.Intn(3)
			for leaves < day {
				leaves += c.Every
			}
			if c.From != place || leaves+c.Takes > api.MaxDay {
				continue
			}
			first, then := wayOf(t, p, place, day, member), wayOf(t, p, c.To, leaves+c.Takes, member)
			if first > then {
				t.Errorf("from %d on %d to %d it is %d, but with %+v %d", place, day, member, first, c, then)
			}
			seen.note("on the best way", first == then && first <= api.MaxDay)
			seen.note("on another way", first < then)
		}
	})
	seen.expect(t, 2, rounds/5)
}

// TestSold: P0.9. Recalls do not come before their deed: one that did could recall the deed of the sale.
func TestSold(t *testing.T) {
	seen := tally{}
	r := rand.New(rand.NewSource(9))
	for range 2 * rounds {
		s := randomSale(r)
		deeds, e := sales.Deeds(s)
		if e != api.OK {
			t.Fatalf("Deeds has the error %d: %+v", e, s)
		}
		after, e := owners.Merge(s.Stud, deeds, nil)
		if e != api.OK {
			t.Fatalf("Merge of owners has the error %d: %+v", e, s)
		}
		if _, e := owners.Truths(after, 0); e == api.ErrMany {
			continue
		}
		for _, d := range deeds {
			birds := modelFits(api.Pound{Stud: after}, find(0, 0, fmt.Sprintf("%04d", d.Ring), 0, 0))
			named := func(other api.Deed) bool { return other.Ring == d.Ring && other.Id != d.Id }
			if len(birds) > 1 || slices.ContainsFunc(after.Deeds, named) {
				seen.note("another bird, or deed", true)
				continue
			}
			for _, day := range []int{d.Day, d.Day + 1 + r.Intn(20), api.MaxDay} {
				expectBuyer(t, r, seen, after, birds[0], day, d.To)
			}
		}
		if t.Failed() {
			t.Fatalf("the sale: %+v", s)
		}
	}
	seen.expect(t, 4, rounds/20)
}

// expectBuyer checks that a find of a bird on a day leads to its buyer, and to nobody else if all was read.
func expectBuyer(t *testing.T, r *rand.Rand, seen tally, after api.Stud, sold, day, buyer int) {
	t.Helper()
	b := after.Flock.Birds[sold]
	p := api.Pound{Stud: after, Places: 1, Finds: []api.Find{find(5, day, fmt.Sprintf("%04d", b.Ring), b.Sex*r.Intn(2), 0)}}
	if leads := leadsOf(t, p, 5); !slices.Equal(leads, []int{buyer}) {
		t.Errorf("%d was sold to %d, but leads to %v on %d", sold, buyer, leads, day)
	}
	seen.note("not its first owner", after.Firsts[sold] != buyer)
	p.Finds[0].Digits[r.Intn(4)], p.Finds[0].Digits[r.Intn(4)] = -1, -1
	leads := leadsOf(t, p, 5)
	if !slices.Contains(leads, buyer) {
		t.Errorf("%d was sold to %d, but leads to %v on %d", sold, buyer, leads, day)
	}
	seen.note("to the buyer alone", len(leads) == 1)
	seen.note("to others, too", len(leads) > 1)
}

// randomSale returns a valid sale in which most of the sellers own what they sell.
func randomSale(r *rand.Rand) api.Sale {
	s := api.Sale{Stud: randomStud(r, 0), Step: 1, Mille: 100}
	for bird := range s.Stud.Flock.Birds {
		day := r.Intn(lastDay + 4)
		seller := s.Stud.Firsts[bird]
		if who := holders(s.Stud, max(0, day-1), bird); day > 0 {
			seller = who[r.Intn(len(who))]
		}
		if r.Intn(4) > 0 {
			s.Lots = append(s.Lots, api.Lot{Bird: bird, Seller: seller, Day: day, Close: 9, Reserve: 5})
		}
	}
	for n := range s.Lots {
		for id := range r.Intn(3) {
			s.Bids = append(s.Bids, api.Bid{Id: 10*n + id, At: r.Intn(9), Lot: n, Member: r.Intn(lastMember + 4), Limit: 5 + r.Intn(9)})
		}
	}
	return s
}

// TestDoubledRing: P0.10.
func TestDoubledRing(t *testing.T) {
	seen := tally{}
	eachFind(t, func(_ *rand.Rand, p api.Pound, f api.Find) {
		if doubtOf(t, p, f.Id) != api.DoubledRing {
			return
		}
		doubled, e := rings.Doubled(p.Stud.Flock)
		for _, bird := range birdsOf(t, p, f.Id) {
			if ring := p.Stud.Flock.Birds[bird].Ring; !slices.Contains(doubled, ring) || e != api.OK {
				t.Errorf("%d is in doubt for %d, but Doubled = %v, %d", f.Id, ring, doubled, e)
			}
		}
		seen.note("read", !slices.Contains(f.Digits, -1))
		seen.note("not all of it", slices.Contains(f.Digits, -1))
	})
	seen.expect(t, 2, rounds/60)
}
