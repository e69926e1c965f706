package sales_test

import (
	"fmt"
	"maps"
	"math/rand"
	"reflect"
	"slices"
	"testing"

	"squeaker/api"
	"squeaker/owners"
	"squeaker/sales"
)

const rounds = 600

// eachSale gives a test many sales, always the same ones.
func eachSale(t *testing.T, test func(r *rand.Rand, s api.Sale)) {
	t.Helper()
	r := rand.New(rand.NewSource(11))
	for range rounds {
		s := randomSale(r)
		if e := sales.Check(s); e != api.OK {
			t.Fatalf("Check has the error %d of %+v", e, s)
		}
		before := copied(s)
		test(r, s)
		if !reflect.DeepEqual(before, s) {
			t.Errorf("the sale is changed")
		}
		if t.Failed() {
			t.Fatalf("the sale: %+v", before)
		}
	}
}

// A tally counts how often something was so, to be sure that a test meets it.
type tally map[string]int

func (c tally) note(what string, is bool) {
	if is {
		c[what]++
	}
}

// expect checks that as many things were noted, each often enough.
func (c tally) expect(t *testing.T, kinds, least int) {
	t.Helper()
	if len(c) < kinds || slices.Min(slices.Collect(maps.Values(c))) < least {
		t.Fatalf("so often there was: %v", c)
	}
}

// answers returns what a sale answers to all questions.
func answers(s api.Sale) map[string]answer {
	out := map[string]answer{}
	put := func(name string, e api.Errno, results ...any) { out[name] = answer{results, e} }
	for lot := range s.Lots {
		of := fmt.Sprint(" of ", lot)
		for _, minute := range append(numbers(0, lastMinute+1), api.MaxTime) {
			member, price, e := sales.Leader(s, lot, minute)
			put(fmt.Sprint("Leader after ", minute, of), e, member, price)
		}
		ends, e := sales.Ends(s, lot)
		put("Ends"+of, e, ends)
		o, e := sales.Result(s, lot)
		put("Result"+of, e, o)
	}
	for member := range lastMember + 1 {
		pays, gets, e := sales.Owes(s, member)
		put(fmt.Sprint("Owes of ", member), e, pays, gets)
	}
	deeds, e := sales.Deeds(s)
	put("Deeds", e, append([]api.Deed(nil), deeds...))
	return out
}

// expectSame checks that two sales answer the same.
func expectSame(t *testing.T, name string, a, b api.Sale) {
	t.Helper()
	was, is := answers(a), answers(b)
	for q := range was {
		if !reflect.DeepEqual(was[q], is[q]) {
			t.Errorf("%s: %s = %v, and was %v: %+v", name, q, is[q], was[q], b)
		}
	}
}

// resultOf returns what became of a lot, and fails if there is an error.
func resultOf(t *testing.T, s api.Sale, lot int) api.Outcome {
	t.Helper()
	o, e := sales.Result(s, lot)
	if e != api.OK {
		t.Fatalf("Result has the error %d: %+v", e, s)
	}
	return o
}

// deedsOf returns the deeds of a sale, and fails if there is an error.
func deedsOf(t *testing.T, s api.Sale) []api.Deed {
	t.Helper()
	deeds, e := sales.Deeds(s)
	if e != api.OK {
		t.Fatalf("Deeds has the error %d: %+v", e, s)
	}
	return deeds
}

// TestModel: P11.3 to P11.7, everything is what the definitions say, minute by minute.
func TestModel(t *testing.T) {
	seen := tally{}
	states := map[int]int{}
	eachSale(t, func(_ *rand.Rand, s api.Sale) {
		owed := map[int][2]int{}
		var deeds []api.Deed
		next := 0
		for _, d := range s.Stud.Deeds {
			next = max(next, d.Id+1)
		}
		for n, l := range s.Lots {
			var moments []moment
			for _, minute := range append(numbers(0, lastMinute+1), api.MaxTime) {
				member, price, _ := hear(s, n, minute).leader(s.Step)
				moments = append(moments, moment{minute, member, price})
			}
			end := hear(s, n, lastMinute)
			expectLeaders(t, "the model", s, n, end.ends, moments...)
			want := modelResult(s, n)
			if got := resultOf(t, s, n); got != want {
				t.Errorf("Result of %d = %+v, not %+v", n, got, want)
			}
			states[want.State]++
			seen.note("a lot that stays open", end.ends > l.Close)
			seen.note("a price between", want.Price > l.Reserve && want.Fee > 0 && want.Rest > 0)
			seen.note("a bid that is not taken", len(end.taken) < countFor(s, n))
			seen.note("another one led first", len(end.taken) > 0 && want.Price > 0 && end.taken[0].Member != want.Winner)
			if want.State == api.Passed {
				owed[want.Winner] = [2]int{owed[want.Winner][0] + want.Price, owed[want.Winner][1]}
				owed[l.Seller] = [2]int{owed[l.Seller][0], owed[l.Seller][1] + want.Rest}
				deeds = append(deeds, deed(next+len(deeds), l.Day, s.Stud.Flock.Birds[l.Bird].Ring, l.Seller, want.Winner))
			}
		}
		expectOwes(t, "the model", s, owed)
		expectDeeds(t, "the model", s, deeds...)
	})
	seen.expect(t, 4, rounds/10)
	if min(states[api.Passed], states[api.Unsold], states[api.Doubtful]) < rounds/6 {
		t.Errorf("so many lots have each state: %v", states)
	}
}

// countFor returns how many bids for a lot count.
func countFor(s api.Sale, lot int) int {
	return len(idsOf(slices.DeleteFunc(slices.Clone(s.Bids), func(b api.Bid) bool {
		return b.Lot != lot || slices.Contains(s.Recalled, b.Id)
	})))
}

// TestSameAgain: P1, a result depends on nothing but the arguments.
func TestSameAgain(t *testing.T) {
	eachSale(t, func(_ *rand.Rand, s api.Sale) {
		for range 3 {
			expectSame(t, "again", s, copied(s))
		}
	})
}

// TestAnyOrder: P11.8.
func TestAnyOrder(t *testing.T) {
	eachSale(t, func(r *rand.Rand, s api.Sale) {
		mixed := copied(s)
		if len(s.Bids) > 0 {
			mixed.Bids = append(mixed.Bids, s.Bids[r.Intn(len(s.Bids))])
		}
		if len(s.Recalled) > 0 {
			mixed.Recalled = append(mixed.Recalled, s.Recalled[r.Intn(len(s.Recalled))])
		}
		mix(r, mixed.Bids)
		mix(r, mixed.Recalled)
		expectSame(t, "mixed", s, mixed)
		merged, e := sales.Merge(s, nil, nil)
		if other, f := sales.Merge(mixed, nil, nil); !sameSale(merged, other) || e != api.OK || f != api.OK {
			t.Errorf("Merge = %v, %d, and of the mixed one %v, %d", merged, e, other, f)
		}
		expectSame(t, "merged", s, merged)
		for range 3 {
			if late := mergedInParts(t, r, s); !sameSale(merged, late) {
				t.Errorf("Merge = %v, and part by part %v", merged, late)
			}
		}
	})
}

// mergedInParts merges all bids and recalls of a sale into it without them, in random parts, some of which overlap.
func mergedInParts(t *testing.T, r *rand.Rand, s api.Sale) api.Sale {
	t.Helper()
	mixed := copied(s)
	mix(r, mixed.Bids)
	mix(r, mixed.Recalled)
	now := copied(s)
	now.Bids, now.Recalled = nil, nil
	b, c := 0, 0
	for b < len(mixed.Bids) || c < len(mixed.Recalled) {
		toB, toC := min(len(mixed.Bids), b+r.Intn(6)), min(len(mixed.Recalled), c+r.Intn(3))
		next, e := sales.Merge(now, mixed.Bids[max(0, b-r.Intn(3)):toB], mixed.Recalled[max(0, c-r.Intn(2)):toC])
		if e != api.OK {
			t.Errorf("Merge has the error %d", e)
			return now
		}
		now, b, c = next, toB, toC
	}
	return now
}

// TestHighestLimit: P11.9.
func TestHighestLimit(t *testing.T) {
	seen := tally{}
	eachSale(t, func(_ *rand.Rand, s api.Sale) {
		taken := map[int]bool{}
		for n, l := range s.Lots {
			limits := map[int]int{}
			for _, b := range hear(s, n, lastMinute).taken {
				taken[b.Id] = true
				limits[b.Member] = max(limits[b.Member], b.Limit)
			}
			member, price, e := sales.Leader(s, n, api.MaxTime)
			if e == api.ErrNone {
				continue
			}
			if price < l.Reserve || price > limits[member] {
				t.Errorf("the price of %d is %d, from %d to %d", n, price, l.Reserve, limits[member])
			}
			most := 0
			for other, limit := range limits {
				if other != member {
					most = max(most, limit)
				}
			}
			if most > limits[member] {
				t.Errorf("the leader of %d is %d, of %v", n, member, limits)
			}
			seen.note("the reserve", price == l.Reserve)
			seen.note("all of the limit", price == limits[member])
			seen.note("the same limit", most == limits[member])
		}
		for _, id := range idsOf(s.Bids) {
			if !taken[id] {
				expectSame(t, fmt.Sprint("without ", id), s, without(s, id))
			}
			seen.note("a bid that is not taken", !taken[id])
		}
	})
	seen.expect(t, 4, rounds/20)
}

// idsOf returns the Ids of some bids, each once.
func idsOf(bids []api.Bid) []int {
	var ids []int
	for _, b := range bids {
		if !slices.Contains(ids, b.Id) {
			ids = append(ids, b.Id)
		}
	}
	return ids
}

// without returns a sale without the bid with an Id.
func without(s api.Sale, id int) api.Sale {
	s = copied(s)
	s.Bids = slices.DeleteFunc(s.Bids, func(b api.Bid) bool { return b.Id == id })
	return s
}

// until returns a sale with the bids of the minutes up to one.
func until(s api.Sale, minute int) api.Sale {
	s = copied(s)
	s.Bids = slices.DeleteFunc(s.Bids, func(b api.Bid) bool { return b.At > minute })
	return s
}

// TestMoreBids: P11.10.
func TestMoreBids(t *testing.T) {
	seen := tally{}
	eachSale(t, func(r *rand.Rand, s api.Sale) {
		for n, l := range s.Lots {
			at := l.Open + r.Intn(l.Close+4-l.Open)
			s := until(s, at)
			b := bid(lastId+1, at, n, r.Intn(lastMember+1), l.Reserve*(1+r.Intn(10)))
			if !hear(s, n, at).isTaken(b) || len(s.Bids) == api.MaxBids {
				continue
			}
			more, e := sales.Merge(s, []api.Bid{b}, nil)
			if e != api.OK {
				t.Errorf("Merge has the error %d", e)
			}
			member, price, e := sales.Leader(s, n, api.MaxTime)
			newMember, newPrice, f := sales.Leader(more, n, api.MaxTime)
			if f != api.OK || newPrice < price || newMember != b.Member && (e != api.OK || newMember != member) {
				t.Errorf("with %v Leader = %d %d, %d, and was %d %d, %d", b, newMember, newPrice, f, member, price, e)
			}
			ends, _ := sales.Ends(s, n)
			if now, e := sales.Ends(more, n); now < ends || now < b.At+s.Extra || e != api.OK {
				t.Errorf("with %v Ends = %d, %d, and was %d", b, now, e, ends)
			}
			seen.note("a first bid", e != api.OK)
			seen.note("a greater price", price > 0 && newPrice > price)
			seen.note("another leader", price > 0 && newMember != member)
			seen.note("the same leader", price > 0 && newMember == member)
		}
	})
	seen.expect(t, 4, rounds/30)
}

// TestToTheCent: P11.11.
func TestToTheCent(t *testing.T) {
	seen := tally{}
	eachSale(t, func(_ *rand.Rand, s api.Sale) {
		paid, got, fees := 0, 0, 0
		for member := range api.MaxMember + 1 {
			pays, gets, e := sales.Owes(s, member)
			if e != api.OK {
				t.Errorf("Owes has the error %d", e)
			}
			paid, got = paid+pays, got+gets
			seen.note("a member who pays and gets", pays > 0 && gets > 0)
		}
		for n := range s.Lots {
			fees += resultOf(t, s, n).Fee
		}
		if paid != got+fees {
			t.Errorf("all pay %d, and get %d, the fees are %d", paid, got, fees)
		}
		seen.note("fees, and more", fees > 0 && got > 0)
	})
	seen.expect(t, 2, rounds/30)
}

// afterwards returns the stud of a sale with its deeds, and whether it can be asked.
func afterwards(t *testing.T, s api.Sale) (api.Stud, bool) {
	t.Helper()
	stud, e := owners.Merge(s.Stud, deedsOf(t, s), nil)
	if e != api.OK {
		t.Fatalf("Merge of owners has the error %d: %+v", e, s)
	}
	_, e = owners.Truths(stud, 0)
	return stud, e == api.OK
}

// TestOwner: P11.12.
func TestOwner(t *testing.T) {
	seen := tally{}
	eachSale(t, func(_ *rand.Rand, s api.Sale) {
		for n, l := range s.Lots {
			alone := copied(s)
			alone.Bids = slices.DeleteFunc(alone.Bids, func(b api.Bid) bool { return b.Lot != n })
			won := resultOf(t, alone, n)
			another := func(d api.Deed) bool { return d.Day == l.Day }
			if won.State != api.Passed || slices.ContainsFunc(s.Stud.Deeds, another) {
				continue
			}
			stud, ok := afterwards(t, alone)
			if !ok {
				continue
			}
			who, _ := owners.Owners(stud, l.Day, l.Bird)
			if !slices.Contains(who, won.Winner) {
				t.Errorf("%d won %d, which %v can own", won.Winner, n, who)
			}
			rings := map[int]int{}
			for _, b := range s.Stud.Flock.Birds {
				rings[b.Ring]++
			}
			single := rings[s.Stud.Flock.Birds[l.Bird].Ring] == 1
			if owner, e := owners.Owner(stud, l.Day, l.Bird); single && (owner != won.Winner || e != api.OK) {
				t.Errorf("%d won %d, which %d owns, %d", won.Winner, n, owner, e)
			}
			seen.note("no other bird with the ring", single)
			seen.note("another bird with the ring", !single)
			seen.note("another bird that can have passed", len(who) > 1)
			seen.note("the first day", l.Day == 0)
		}
	})
	seen.expect(t, 4, rounds/60)
}

// TestBirdsThatPassed: P0.8.
func TestBirdsThatPassed(t *testing.T) {
	seen := tally{}
	eachSale(t, func(_ *rand.Rand, s api.Sale) {
		stud, ok := afterwards(t, s)
		if !ok {
			return
		}
		sold := deedsOf(t, s)
		before := firstBirds(stud)
		for day := range lastDay + 2 {
			now := map[int][]int{}
			for member := range lastMember + 1 {
				_, may, e := owners.Birds(stud, day, member)
				if e != api.OK {
					t.Errorf("Birds has the error %d", e)
				}
				now[member] = may
				for _, bird := range may {
					if slices.Contains(before[member], bird) {
						continue
					}
					named := func(d api.Deed) bool {
						return d.Day == day && d.To == member && d.Ring == stud.Flock.Birds[bird].Ring
					}
					if !slices.ContainsFunc(stud.Deeds, named) {
						t.Errorf("%d may own %d on %d without a deed", member, bird, day)
					}
					seen.note("a deed of the sale", slices.ContainsFunc(sold, named))
					seen.note("another deed", !slices.ContainsFunc(sold, named))
				}
			}
			before = now
		}
	})
	seen.expect(t, 2, rounds/10)
}

// firstBirds returns the birds of each member before all deeds.
func firstBirds(s api.Stud) map[int][]int {
	birds := map[int][]int{}
	for bird, member := range s.Firsts {
		birds[member] = append(birds[member], bird)
	}
	return birds
}
