package sales_test

import (
	"math"
	"reflect"
	"slices"
	"strconv"
	"testing"

	"squeaker/api"
	"squeaker/owners"
	"squeaker/sales"
)

func deed(id, day, ring, from, to int) api.Deed {
	return api.Deed{Id: id, Day: day, Ring: ring, From: from, To: to}
}

func bird(ring, sex int) api.Bird {
	return api.Bird{Ring: ring, Sex: sex, Born: api.Span{Low: 1, High: 1}}
}

func lot(bird, seller, day, open, end, reserve int) api.Lot {
	return api.Lot{Bird: bird, Seller: seller, Day: day, Open: open, Close: end, Reserve: reserve}
}

func bid(id, at, lot, member, limit int) api.Bid {
	return api.Bid{Id: id, At: at, Lot: lot, Member: member, Limit: limit}
}

func passed(winner, price, fee, rest int) api.Outcome {
	return api.Outcome{State: api.Passed, Winner: winner, Price: price, Fee: fee, Rest: rest}
}

func unsold() api.Outcome { return api.Outcome{State: api.Unsold} }

func doubtful() api.Outcome { return api.Outcome{State: api.Doubtful} }

// stud is the stud S of chapter 3.
func stud() api.Stud {
	return api.Stud{
		Flock:  api.Flock{Birds: []api.Bird{bird(100, api.Cock), bird(102, api.Hen), bird(102, api.Cock)}},
		Firsts: []int{1, 1, 2},
		Deeds:  []api.Deed{deed(1, 5, 100, 1, 3), deed(2, 6, 102, 1, 2), deed(3, 8, 102, 2, 4), deed(4, 8, 100, 1, 5), deed(5, 9, 102, 4, 3)},
	}
}

// example is the sale A of the chapter.
func example() api.Sale {
	return api.Sale{
		Stud: stud(), Step: 50, Extra: 5, Mille: 100,
		Lots: []api.Lot{lot(0, 3, 20, 10, 30, 1000), lot(1, 2, 20, 10, 30, 500)},
		Bids: []api.Bid{
			bid(1, 12, 0, 7, 1500), bid(2, 13, 0, 8, 1200), bid(3, 30, 0, 9, 1490), bid(4, 34, 0, 8, 2000),
			bid(5, 40, 0, 7, 3000), bid(6, 20, 1, 7, 600), bid(7, 9, 1, 8, 900), bid(8, 21, 1, 2, 900),
		},
	}
}

// changed returns the example with something changed.
func changed(change func(s *api.Sale)) api.Sale {
	s := example()
	change(&s)
	return s
}

// with returns the example with other bids.
func with(bids ...api.Bid) api.Sale { return changed(func(s *api.Sale) { s.Bids = bids }) }

// recalled returns the example with recalls.
func recalled(ids ...int) api.Sale { return changed(func(s *api.Sale) { s.Recalled = ids }) }

// market is a sale in which the birds 0 to 3, with the rings 10 to 13, surely are those of the members 0 to 3, and all
// lots were bid for by 8, and up to 1000.
func market(lots ...api.Lot) api.Sale {
	s := api.Sale{Step: 10, Extra: 0, Mille: 100, Lots: lots}
	for i := range 4 {
		s.Stud.Flock.Birds = append(s.Stud.Flock.Birds, bird(10+i, api.Cock))
		s.Stud.Firsts = append(s.Stud.Firsts, i)
	}
	for i, l := range lots {
		s.Bids = append(s.Bids, bid(i, l.Open, i, 8, 1000))
	}
	return s
}

// unowned is a sale of the bird 0, which 4 owns at first, 5 after the day 3 and 6 after the day 8, on a day.
func unowned(seller, day int) api.Sale {
	s := market(lot(0, seller, day, 0, 9, 100))
	s.Stud.Firsts[0] = 4
	s.Stud.Deeds = []api.Deed{deed(50, 3, 10, 4, 5), deed(60, 8, 10, 5, 6)}
	return s
}

// many returns bids with the Ids from first on.
func many(first, n int) []api.Bid {
	var bids []api.Bid
	for i := range n {
		bids = append(bids, bid(first+i, 3, 0, 7, 9))
	}
	return bids
}

// numbers returns n numbers from first on.
func numbers(first, n int) []int {
	var out []int
	for i := range n {
		out = append(out, first+i)
	}
	return out
}

// tooFarFrom returns numbers that are not within limits.
func tooFarFrom(low, high int) []int { return []int{low - 1, high + 1, math.MinInt, math.MaxInt} }

// A field is a number of a sale, the limits of it, and how it is set.
type field struct {
	name      string
	low, high int
	set       func(s *api.Sale, n int)
}

// fields returns all numbers of the example that have limits, as they are with the others.
func fields() []field {
	out := []field{
		{"Step", 1, api.MaxPrice, func(s *api.Sale, n int) { s.Step = n }},
		{"Extra", 0, api.MaxExtra, func(s *api.Sale, n int) { s.Extra = n }},
		{"Mille", 0, 1000, func(s *api.Sale, n int) { s.Mille = n }},
		{"the only recall", 0, api.MaxMember, func(s *api.Sale, n int) { s.Recalled = []int{n} }},
		{"the last recall", 0, api.MaxMember, func(s *api.Sale, n int) { s.Recalled = []int{1, 2, n} }},
		{"Lot of a recalled bid", 0, 1, func(s *api.Sale, n int) { s.Bids[7].Lot, s.Recalled = n, []int{8} }},
	}
	for i := range example().Lots {
		of := " of the lot " + strconv.Itoa(i)
		out = append(out,
			field{"Bird" + of, 0, 2, func(s *api.Sale, n int) { s.Lots[i].Bird = n }},
			field{"Seller" + of, 0, api.MaxMember, func(s *api.Sale, n int) { s.Lots[i].Seller = n }},
			field{"Day" + of, 0, api.MaxDay, func(s *api.Sale, n int) { s.Lots[i].Day = n }},
			field{"Open" + of, 0, 30, func(s *api.Sale, n int) { s.Lots[i].Open = n }},
			field{"Close" + of, 10, api.MaxTime, func(s *api.Sale, n int) { s.Lots[i].Close = n }},
			field{"Open and Close" + of, 0, api.MaxTime, func(s *api.Sale, n int) { s.Lots[i].Open, s.Lots[i].Close = n, n }},
			field{"Reserve" + of, 1, api.MaxPrice, func(s *api.Sale, n int) { s.Lots[i].Reserve = n }})
	}
	for i := range example().Bids {
		of := " of the bid " + strconv.Itoa(i)
		out = append(out,
			field{"Id" + of, 0, api.MaxMember, func(s *api.Sale, n int) { s.Bids[i].Id = n }},
			field{"At" + of, 0, api.MaxTime, func(s *api.Sale, n int) { s.Bids[i].At = n }},
			field{"Lot" + of, 0, 1, func(s *api.Sale, n int) { s.Bids[i].Lot = n }},
			field{"Member" + of, 0, api.MaxMember, func(s *api.Sale, n int) { s.Bids[i].Member = n }},
			field{"Limit" + of, 1, api.MaxPrice, func(s *api.Sale, n int) { s.Bids[i].Limit = n }})
	}
	return out
}

// invalid returns sales each of which breaks one rule, by what is broken.
func invalid() map[string]api.Sale {
	out := map[string]api.Sale{
		"nothing":            {},
		"a lot too many":     changed(func(s *api.Sale) { s.Lots = slices.Repeat(s.Lots[:1], api.MaxLots+1) }),
		"no lots":            changed(func(s *api.Sale) { s.Lots = nil }),
		"a lot of no bird":   {Step: 1, Lots: []api.Lot{lot(0, 0, 0, 0, 0, 1)}},
		"a bid too many":     with(many(0, api.MaxBids+1)...),
		"a bid too often":    with(slices.Repeat(many(0, 1), api.MaxBids+1)...),
		"a recall too many":  recalled(numbers(0, api.MaxBids+1)...),
		"a recall too often": recalled(slices.Repeat([]int{7}, api.MaxBids+1)...),
	}
	for _, f := range fields() {
		for _, n := range tooFarFrom(f.low, f.high) {
			out[f.name+" "+strconv.Itoa(n)] = changed(func(s *api.Sale) { f.set(s, n) })
		}
	}
	return out
}

// clashing returns valid sales with bids that clash, by what is not equal.
func clashing() map[string]api.Sale {
	out := map[string]api.Sale{}
	for name, b := range map[string]api.Bid{
		"At": bid(1, 13, 0, 7, 1500), "Lot": bid(1, 12, 1, 7, 1500), "Member": bid(1, 12, 0, 6, 1500), "Limit": bid(1, 12, 0, 7, 1499),
	} {
		out[name] = changed(func(s *api.Sale) { s.Bids = append(s.Bids, b) })
		out[name+", first"] = changed(func(s *api.Sale) { s.Bids = slices.Insert(s.Bids, 0, b) })
		out[name+", recalled"] = changed(func(s *api.Sale) { s.Bids, s.Recalled = append(s.Bids, b), []int{1} })
		out[name+", beside equal ones"] = with(example().Bids[0], example().Bids[0], b, b)
	}
	return out
}

// wrongStuds returns sales with a stud that is not valid, or whose deeds clash.
func wrongStuds() map[string]api.Sale {
	out := map[string]api.Sale{}
	for name, change := range map[string]func(s *api.Stud){
		"a ring that is none":   func(s *api.Stud) { s.Flock.Birds[1].Ring = api.MaxRing + 1 },
		"a sex that is none":    func(s *api.Stud) { s.Flock.Birds[0].Sex = 0 },
		"a first owner too few": func(s *api.Stud) { s.Firsts = s.Firsts[:2] },
		"a first owner below 0": func(s *api.Stud) { s.Firsts[2] = -1 },
		"a deed too often":      func(s *api.Stud) { s.Deeds = slices.Repeat(s.Deeds[:1], api.MaxDeeds+1) },
		"a deed on no day":      func(s *api.Stud) { s.Deeds[4].Day = api.MaxDay + 1 },
		"a recall of no deed":   func(s *api.Stud) { s.Voided = []int{api.MaxMember + 1} },
		"deeds that clash":      func(s *api.Stud) { s.Deeds = append(s.Deeds, deed(1, 5, 100, 1, 4)) },
		"a voided one clashes":  func(s *api.Stud) { s.Deeds, s.Voided = append(s.Deeds, deed(1, 5, 100, 1, 4)), []int{1} },
		"another day":           func(s *api.Stud) { s.Deeds = append(s.Deeds, deed(5, 8, 102, 4, 3)) },
	} {
		out[name] = changed(func(s *api.Sale) { change(&s.Stud) })
	}
	return out
}

// studError returns the error of the stud of a sale, ErrStud or ErrDeed.
func studError(t *testing.T, s api.Sale) api.Errno {
	t.Helper()
	e := owners.Check(s.Stud)
	if e != api.ErrStud && e != api.ErrDeed {
		t.Fatalf("Check of owners = %d", e)
	}
	return e
}

// crowded returns sales with studs of which there are too many truths after some deed.
func crowded() map[string]api.Sale {
	var late api.Stud
	late.Flock.Birds, late.Firsts = slices.Repeat([]api.Bird{bird(7, api.Hen)}, 8), make([]int, 8)
	late.Deeds = []api.Deed{deed(1, 1, 7, 0, 1), deed(2, 1, 7, 0, 2), deed(3, api.MaxDay, 7, 0, 3)}
	brief := late
	brief.Deeds = append(slices.Clone(late.Deeds[:2]), deed(3, 2, 7, 0, 3), deed(4, 3, 7, 1, 0), deed(5, 3, 7, 2, 0), deed(6, 3, 7, 3, 0))
	return map[string]api.Sale{
		"on the last day": changed(func(s *api.Sale) { s.Stud = late }),
		"for a while":     changed(func(s *api.Sale) { s.Stud = brief }),
	}
}

// An answer is what a function returned, without its error, and the error.
type answer struct {
	results []any
	e       api.Errno
}

// A question is all that the functions ask beside the sale.
type question struct{ lot, minute, member int }

// ask calls each function of a sale.
func ask(s api.Sale, q question) map[string]answer {
	out := map[string]answer{"Check": {nil, sales.Check(s)}}
	put := func(name string, e api.Errno, results ...any) { out[name] = answer{results, e} }
	merged, e := sales.Merge(s, nil, nil)
	put("Merge", e, merged)
	member, price, e := sales.Leader(s, q.lot, q.minute)
	put("Leader", e, member, price)
	ends, e := sales.Ends(s, q.lot)
	put("Ends", e, ends)
	o, e := sales.Result(s, q.lot)
	put("Result", e, o)
	pays, gets, e := sales.Owes(s, q.member)
	put("Owes", e, pays, gets)
	deeds, e := sales.Deeds(s)
	put("Deeds", e, append([]api.Deed(nil), deeds...))
	return out
}

// expectErrors checks the errors of all functions: others, but for those that are named; and the zero values.
func expectErrors(t *testing.T, name string, got map[string]answer, others api.Errno, named map[string]api.Errno) {
	t.Helper()
	for function, a := range got {
		want, ok := named[function]
		if !ok {
			want = others
		}
		if a.e != want {
			t.Errorf("%s: %s has the error %d, not %d", name, function, a.e, want)
		}
		for _, r := range a.results {
			if a.e != api.OK && !reflect.ValueOf(r).IsZero() {
				t.Errorf("%s: %s returns %v with an error", name, function, r)
			}
		}
	}
}

// wrongQuestions returns questions to the example, each of which has one thing that is not as described, and the
// functions that ask for it.
func wrongQuestions() (questions []question, asking [][]string) {
	add := func(q question, functions ...string) {
		questions = append(questions, q)
		asking = append(asking, functions)
	}
	for _, n := range tooFarFrom(0, 1) {
		add(question{n, 30, 7}, "Leader", "Ends", "Result")
	}
	for _, n := range tooFarFrom(0, api.MaxTime) {
		add(question{0, n, 7}, "Leader")
	}
	for _, n := range tooFarFrom(0, api.MaxMember) {
		add(question{0, 30, n}, "Owes")
	}
	return questions, asking
}

// TestErrors: P1, with the errors in their order and zero values beside them.
func TestErrors(t *testing.T) {
	questions, asking := wrongQuestions()
	free := map[string]api.Errno{"Check": api.OK, "Merge": api.OK}
	for _, q := range append(questions, question{0, 30, 7}) {
		for name, s := range wrongStuds() {
			expectErrors(t, name, ask(s, q), studError(t, s), nil)
		}
		for name, s := range invalid() {
			expectErrors(t, name, ask(s, q), api.ErrSale, nil)
		}
		for name, s := range clashing() {
			expectErrors(t, name, ask(s, q), api.ErrBid, nil)
		}
		for name, s := range crowded() {
			expectErrors(t, name, ask(s, q), api.ErrMany, free)
		}
	}
	for i, q := range questions {
		wrong := map[string]api.Errno{}
		for _, function := range asking[i] {
			wrong[function] = api.ErrArg
		}
		expectErrors(t, "example", ask(example(), q), api.OK, wrong)
		wrong["Leader"] = api.ErrArg
		expectErrors(t, "no minute", ask(example(), question{q.lot, -1, q.member}), api.OK, wrong)
	}
	expectErrors(t, "example", ask(example(), question{0, 30, 7}), api.OK, nil)
	expectErrors(t, "the limits", ask(example(), question{1, api.MaxTime, api.MaxMember}), api.OK, nil)
	expectErrors(t, "no leader", ask(example(), question{0, 0, 0}), api.OK, map[string]api.Errno{"Leader": api.ErrNone})
	noLot := map[string]api.Errno{"Leader": api.ErrArg, "Ends": api.ErrArg, "Result": api.ErrArg}
	expectErrors(t, "no lots", ask(api.Sale{Step: 1}, question{}), api.OK, noLot)
}

// TestFirstError: P1, of several errors the first one is returned.
func TestFirstError(t *testing.T) {
	twins := []api.Bid{bid(40, 1, 0, 1, 1), bid(40, 1, 0, 1, 2)}
	for name, s := range wrongStuds() {
		s.Step, s.Bids = 0, twins
		expectErrors(t, name+" and no step", ask(s, question{lot: -1}), studError(t, s), nil)
		s.Step = 1
		expectErrors(t, name+" and a clash", ask(s, question{lot: -1}), studError(t, s), nil)
	}
	for name, s := range invalid() {
		if len(s.Bids) > 0 && len(s.Bids) <= api.MaxBids-2 {
			s.Bids = slices.Concat(twins, s.Bids)
			expectErrors(t, name+" and a clash", ask(s, question{lot: -1}), api.ErrSale, nil)
		}
	}
	for name, s := range crowded() {
		s.Bids = slices.Concat(s.Bids, twins)
		expectErrors(t, name+" and a clash", ask(s, question{lot: -1, minute: -1, member: -1}), api.ErrBid, nil)
		s.Mille = 1001
		expectErrors(t, name+" and too much", ask(s, question{lot: -1, minute: -1, member: -1}), api.ErrSale, nil)
	}
	noLeader := with()
	wrong := map[string]api.Errno{"Leader": api.ErrArg, "Ends": api.ErrArg, "Result": api.ErrArg}
	expectErrors(t, "no lot and no leader", ask(noLeader, question{lot: 2}), api.OK, wrong)
}

// TestCheck: P11.1.
func TestCheck(t *testing.T) {
	for name, s := range map[string]api.Sale{
		"the least":             {Step: 1},
		"empty lists":           {Step: 1, Lots: []api.Lot{}, Bids: []api.Bid{}, Recalled: []int{}},
		"the example":           example(),
		"no bids":               with(),
		"recalls":               recalled(1, 1, 50, 0),
		"all lots":              changed(func(s *api.Sale) { s.Lots = slices.Repeat(s.Lots[1:], api.MaxLots) }),
		"all bids":              with(many(0, api.MaxBids)...),
		"a bid often":           with(slices.Repeat(many(0, 1), api.MaxBids)...),
		"all recalls":           recalled(numbers(70, api.MaxBids)...),
		"a recall often":        recalled(slices.Repeat([]int{0}, api.MaxBids)...),
		"bids but for the Id":   with(bid(1, 12, 0, 7, 1500), bid(2, 12, 0, 7, 1500)),
		"equal bids":            with(bid(1, 12, 0, 7, 1500), bid(2, 12, 0, 7, 1500), bid(1, 12, 0, 7, 1500)),
		"a bid of the seller":   with(bid(1, 12, 0, 3, 1500)),
		"a bid before it opens": with(bid(1, 0, 0, 7, 1)),
	} {
		if e := sales.Check(s); e != api.OK {
			t.Errorf("%s: Check = %d", name, e)
		}
	}
	for _, f := range fields() {
		for _, n := range []int{f.low, f.high} {
			if e := sales.Check(changed(func(s *api.Sale) { f.set(s, n) })); e != api.OK {
				t.Errorf("%s %d: Check = %d", f.name, n, e)
			}
		}
	}
	for name, s := range wrongStuds() {
		if e := sales.Check(s); e != studError(t, s) {
			t.Errorf("%s: Check = %d", name, e)
		}
	}
	for name, s := range invalid() {
		if e := sales.Check(s); e != api.ErrSale {
			t.Errorf("%s: Check = %d", name, e)
		}
	}
	for name, s := range clashing() {
		if e := sales.Check(s); e != api.ErrBid {
			t.Errorf("%s: Check = %d", name, e)
		}
	}
	for name, s := range crowded() {
		if e := sales.Check(s); e != api.OK {
			t.Errorf("%s: Check = %d", name, e)
		}
	}
}

// A moment is the leader and the price of a lot after a minute. Nobody leads if the price is 0.
type moment struct{ minute, member, price int }

// expectLeaders checks who leads a lot in some minutes, and the minute at which it ends.
func expectLeaders(t *testing.T, name string, s api.Sale, lot, ends int, moments ...moment) {
	t.Helper()
	for _, m := range moments {
		want := api.OK
		if m.price == 0 {
			want = api.ErrNone
		}
		if member, price, e := sales.Leader(s, lot, m.minute); member != m.member || price != m.price || e != want {
			t.Errorf("%s: Leader after %d = %d %d, %d, not %d %d", name, m.minute, member, price, e, m.member, m.price)
		}
	}
	if got, e := sales.Ends(s, lot); got != ends || e != api.OK {
		t.Errorf("%s: Ends = %d, %d, not %d", name, got, e, ends)
	}
}

// TestExample: P11.3 to P11.7, the examples of the chapter.
func TestExample(t *testing.T) {
	a := example()
	expectLeaders(t, "A, 0", a, 0, 39, moment{12, 7, 1000}, moment{13, 7, 1250}, moment{30, 7, 1500}, moment{34, 8, 1550}, moment{9999, 8, 1550})
	expectLeaders(t, "A, 1", a, 1, 30)
	expectResult(t, "A", a, passed(8, 1550, 155, 1395), doubtful())
	expectOwes(t, "A", a, map[int][2]int{8: {1550, 0}, 3: {0, 1395}})
	expectDeeds(t, "A", a, deed(6, 20, 100, 3, 8))
}

// TestLeader: P11.3 and P11.4. All bids are for the lot 0 of the example, which 3 sells from 10 to 30, at least for
// 1000, in steps of 50.
func TestLeader(t *testing.T) {
	for name, c := range map[string]struct {
		bids    []api.Bid
		ends    int
		moments []moment
	}{
		"no bids":               {nil, 30, []moment{{0, 0, 0}, {9999, 0, 0}}},
		"one":                   {[]api.Bid{bid(1, 12, 0, 7, 1500)}, 30, []moment{{11, 0, 0}, {12, 7, 1000}, {9999, 7, 1000}}},
		"the member 0":          {[]api.Bid{bid(0, 12, 0, 0, 1500), bid(99, 13, 0, 99, 1400)}, 30, []moment{{12, 0, 1000}, {13, 0, 1450}}},
		"just the reserve":      {[]api.Bid{bid(1, 12, 0, 7, 1000)}, 30, []moment{{12, 7, 1000}}},
		"below the reserve":     {[]api.Bid{bid(1, 30, 0, 7, 999)}, 30, []moment{{30, 0, 0}}},
		"the seller":            {[]api.Bid{bid(1, 12, 0, 7, 1500), bid(2, 30, 0, 3, 1400)}, 30, []moment{{30, 7, 1000}}},
		"another seller":        {[]api.Bid{bid(1, 12, 0, 7, 1500), bid(2, 30, 0, 2, 1400)}, 35, []moment{{30, 7, 1450}}},
		"before it opens":       {[]api.Bid{bid(1, 9, 0, 7, 1500), bid(2, 10, 0, 8, 1200)}, 30, []moment{{9, 0, 0}, {10, 8, 1000}, {9999, 8, 1000}}},
		"too early, and again":  {[]api.Bid{bid(1, 9, 0, 7, 1500), bid(2, 10, 0, 7, 1200)}, 30, []moment{{9, 0, 0}, {10, 7, 1000}}},
		"at the close":          {[]api.Bid{bid(1, 30, 0, 7, 1500)}, 35, []moment{{29, 0, 0}, {30, 7, 1000}}},
		"behind the close":      {[]api.Bid{bid(1, 31, 0, 7, 1500)}, 30, []moment{{9999, 0, 0}}},
		"five before the close": {[]api.Bid{bid(1, 25, 0, 7, 1500), bid(2, 31, 0, 8, 1600)}, 30, []moment{{9999, 7, 1000}}},
		"four before the close": {[]api.Bid{bid(1, 26, 0, 7, 1500), bid(2, 31, 0, 8, 1600)}, 36, []moment{{30, 7, 1000}, {31, 8, 1550}}},
		"again and again":       {[]api.Bid{bid(1, 30, 0, 7, 1100), bid(2, 35, 0, 8, 1200), bid(3, 40, 0, 7, 1300), bid(4, 46, 0, 8, 1400)}, 45, []moment{{30, 7, 1000}, {35, 8, 1150}, {9999, 7, 1250}}},
		"one is not taken":      {[]api.Bid{bid(1, 30, 0, 7, 1100), bid(2, 35, 0, 8, 900), bid(3, 36, 0, 8, 1300)}, 35, []moment{{9999, 7, 1000}}},
		"not its own again":     {[]api.Bid{bid(1, 12, 0, 7, 1500), bid(2, 29, 0, 7, 1500), bid(3, 30, 0, 7, 1499)}, 30, []moment{{30, 7, 1000}}},
		"its own once more":     {[]api.Bid{bid(1, 12, 0, 7, 1500), bid(2, 30, 0, 7, 1501)}, 35, []moment{{30, 7, 1000}}},
		"behind, once more":     {[]api.Bid{bid(1, 12, 0, 7, 1500), bid(2, 13, 0, 8, 1100), bid(3, 30, 0, 8, 1101)}, 35, []moment{{13, 7, 1150}, {30, 7, 1151}}},
		"behind, and not again": {[]api.Bid{bid(1, 12, 0, 7, 1500), bid(2, 13, 0, 8, 1100), bid(3, 30, 0, 8, 1100)}, 30, []moment{{30, 7, 1150}}},
		"a step":                {[]api.Bid{bid(1, 12, 0, 7, 1500), bid(2, 13, 0, 8, 1450)}, 30, []moment{{13, 7, 1500}}},
		"less than a step":      {[]api.Bid{bid(1, 12, 0, 7, 1500), bid(2, 13, 0, 8, 1451)}, 30, []moment{{13, 7, 1500}}},
		"more than a step":      {[]api.Bid{bid(1, 12, 0, 7, 1500), bid(2, 13, 0, 8, 1449)}, 30, []moment{{13, 7, 1499}}},
		"the same":              {[]api.Bid{bid(1, 12, 0, 7, 1500), bid(2, 13, 0, 8, 1500)}, 30, []moment{{13, 7, 1500}}},
		"the same, in a minute": {[]api.Bid{bid(2, 12, 0, 7, 1500), bid(1, 12, 0, 8, 1500)}, 30, []moment{{12, 8, 1500}}},
		"the same, and later":   {[]api.Bid{bid(1, 11, 0, 7, 1200), bid(2, 12, 0, 8, 1500), bid(3, 13, 0, 7, 1500)}, 30, []moment{{12, 8, 1250}, {13, 8, 1500}}},
		"less, and the most":    {[]api.Bid{bid(1, 12, 0, 7, 1000), bid(2, 13, 0, 8, 1100), bid(3, 14, 0, 7, 1200), bid(4, 15, 0, 7, 1300)}, 30, []moment{{13, 8, 1050}, {14, 7, 1150}, {15, 7, 1150}}},
		"three":                 {[]api.Bid{bid(1, 12, 0, 7, 1100), bid(2, 13, 0, 8, 1200), bid(3, 14, 0, 9, 1300)}, 30, []moment{{12, 7, 1000}, {13, 8, 1150}, {14, 9, 1250}}},
		"three, the other way":  {[]api.Bid{bid(1, 12, 0, 7, 1300), bid(2, 13, 0, 8, 1200), bid(3, 14, 0, 9, 1100)}, 30, []moment{{12, 7, 1000}, {13, 7, 1250}, {14, 7, 1250}}},
		"by minutes, not Ids":   {[]api.Bid{bid(9, 12, 0, 7, 1500), bid(2, 13, 0, 7, 1400), bid(1, 14, 0, 8, 1500)}, 30, []moment{{9999, 7, 1500}}},
		"by Ids, not as listed": {[]api.Bid{bid(2, 30, 0, 7, 1200), bid(1, 30, 0, 7, 1500)}, 35, []moment{{30, 7, 1000}}},
		"another lot":           {[]api.Bid{bid(1, 12, 0, 7, 1500), bid(2, 30, 1, 8, 1400), bid(3, 13, 1, 7, 1700), bid(4, 14, 0, 7, 1600)}, 30, []moment{{12, 7, 1000}, {14, 7, 1000}}},
	} {
		expectLeaders(t, name, with(c.bids...), 0, c.ends, c.moments...)
		slices.Reverse(c.bids)
		expectLeaders(t, name+", backwards", with(slices.Concat(c.bids, c.bids)...), 0, c.ends, c.moments...)
	}
}

// TestSale: P11.3 and P11.4, with other steps and minutes.
func TestSale(t *testing.T) {
	two := []api.Bid{bid(1, 12, 0, 7, 1500), bid(2, 30, 0, 8, 1400)}
	last := changed(func(s *api.Sale) {
		s.Extra, s.Bids, s.Lots[0] = api.MaxExtra, []api.Bid{bid(1, 9999, 0, 7, 1500)}, lot(0, 3, 20, 9999, 9999, 1)
	})
	first := changed(func(s *api.Sale) {
		s.Bids, s.Lots[0] = []api.Bid{bid(1, 0, 0, 7, 1), bid(2, 1, 0, 8, 9)}, lot(0, 3, 20, 0, 0, 1)
	})
	for name, c := range map[string]struct {
		s       api.Sale
		ends    int
		moments []moment
	}{
		"the least step":             {changed(func(s *api.Sale) { s.Bids, s.Step = two, 1 }), 35, []moment{{30, 7, 1401}}},
		"the greatest step":          {changed(func(s *api.Sale) { s.Bids, s.Step = two, api.MaxPrice }), 35, []moment{{29, 7, 1000}, {30, 7, 1500}}},
		"no time":                    {changed(func(s *api.Sale) { s.Bids, s.Extra = two, 0 }), 30, []moment{{30, 7, 1450}}},
		"much time":                  {changed(func(s *api.Sale) { s.Bids, s.Extra = two, 60 }), 90, []moment{{30, 7, 1450}}},
		"the last minute":            {last, 9999 + api.MaxExtra, []moment{{9998, 0, 0}, {9999, 7, 1}}},
		"the first minute":           {first, 6, []moment{{0, 7, 1}, {1, 8, 9}}},
		"recalled":                   {recalled(4), 35, []moment{{12, 7, 1000}, {34, 7, 1500}, {9999, 7, 1500}}},
		"recalled early":             {recalled(1, 50), 39, []moment{{12, 0, 0}, {13, 8, 1000}, {30, 9, 1250}, {34, 8, 1540}}},
		"recalled, and no more time": {recalled(3, 3), 30, []moment{{30, 7, 1250}, {34, 7, 1250}}},
		"all recalled":               {recalled(numbers(0, 9)...), 30, []moment{{9999, 0, 0}}},
		"the most money": {changed(func(s *api.Sale) {
			s.Lots[0].Reserve, s.Bids = api.MaxPrice, []api.Bid{bid(1, 12, 0, 7, api.MaxPrice), bid(2, 13, 0, 8, api.MaxPrice), bid(3, 14, 0, 9, api.MaxPrice-1)}
		}), 30, []moment{{12, 7, api.MaxPrice}, {14, 7, api.MaxPrice}}},
	} {
		expectLeaders(t, name, c.s, 0, c.ends, c.moments...)
	}
}

// expectResult checks what became of the first lots.
func expectResult(t *testing.T, name string, s api.Sale, want ...api.Outcome) {
	t.Helper()
	for lot, o := range want {
		if got, e := sales.Result(s, lot); got != o || e != api.OK {
			t.Errorf("%s: Result of %d = %+v, %d, not %+v", name, lot, got, e, o)
		}
	}
}

// expectOwes checks what each member pays and gets, nothing if they are not listed.
func expectOwes(t *testing.T, name string, s api.Sale, want map[int][2]int) {
	t.Helper()
	for member := range api.MaxMember + 1 {
		if pays, gets, e := sales.Owes(s, member); [2]int{pays, gets} != want[member] || e != api.OK {
			t.Errorf("%s: Owes of %d = %d %d, %d, not %v", name, member, pays, gets, e, want[member])
		}
	}
}

func expectDeeds(t *testing.T, name string, s api.Sale, want ...api.Deed) {
	t.Helper()
	if got, e := sales.Deeds(s); !slices.Equal(got, want) || e != api.OK {
		t.Errorf("%s: Deeds = %v, %d, not %v", name, got, e, want)
	}
}

// TestResult: P11.5.
func TestResult(t *testing.T) {
	shared := func(mille, price int) api.Sale {
		s := market(lot(0, 0, 5, 0, 9, price))
		s.Mille, s.Bids[0].Limit = mille, price
		return s
	}
	for name, c := range map[string]struct {
		s    api.Sale
		want api.Outcome
	}{
		"no bid":                            {with(), unsold()},
		"no bid that is taken":              {with(bid(1, 12, 0, 7, 999)), unsold()},
		"all bids recalled":                 {recalled(1, 2, 3, 4), unsold()},
		"too late without the others":       {changed(func(s *api.Sale) { s.Bids = s.Bids[4:] }), unsold()},
		"no bid, and another seller":        {changed(func(s *api.Sale) { s.Bids, s.Lots[0].Seller = nil, 4 }), unsold()},
		"another seller":                    {changed(func(s *api.Sale) { s.Lots[0].Seller = 4 }), doubtful()},
		"the first owner, on the first day": {unowned(4, 0), passed(8, 100, 10, 90)},
		"another one, on the first day":     {unowned(5, 0), doubtful()},
		"just before a deed":                {unowned(4, 3), passed(8, 100, 10, 90)},
		"not yet":                           {unowned(5, 3), doubtful()},
		"not any more":                      {unowned(4, 4), doubtful()},
		"just after a deed":                 {unowned(5, 4), passed(8, 100, 10, 90)},
		"before another deed":               {unowned(5, 8), passed(8, 100, 10, 90)},
		"after another deed":                {unowned(6, 9), passed(8, 100, 10, 90)},
		"long after":                        {unowned(6, api.MaxDay), passed(8, 100, 10, 90)},
		"no fee":                            {shared(0, 999), passed(8, 999, 0, 999)},
		"all of it":                         {shared(1000, 999), passed(8, 999, 999, 0)},
		"all but a part":                    {shared(999, 999), passed(8, 999, 998, 1)},
		"less than a cent":                  {shared(1, 999), passed(8, 999, 0, 999)},
		"just a cent":                       {shared(1, 1000), passed(8, 1000, 1, 999)},
		"a cent of it":                      {shared(1, 1999), passed(8, 1999, 1, 1998)},
		"the least price":                   {shared(500, 1), passed(8, 1, 0, 1)},
		"the greatest price":                {shared(333, api.MaxPrice), passed(8, api.MaxPrice, 33300, 66700)},
	} {
		expectResult(t, name, c.s, c.want)
	}
	// a deed of the first day does not count on it
	s := unowned(4, 0)
	s.Stud.Deeds[0].Day = 0
	expectResult(t, "a deed of the first day", s, passed(8, 100, 10, 90))
	s.Lots[0].Day = 1
	expectResult(t, "a deed of the day before", s, doubtful())
	s.Stud.Voided = []int{50}
	expectResult(t, "a deed that was recalled", s, passed(8, 100, 10, 90))
	// which of two birds with a ring passed, is not known
	doubled := example()
	doubled.Lots[1].Day = 8
	expectResult(t, "before the doubt", doubled, passed(8, 1550, 155, 1395), passed(7, 500, 50, 450))
	doubled.Lots[1].Day = 9
	expectResult(t, "in doubt", doubled, passed(8, 1550, 155, 1395), doubtful())
}

// TestOwes: P11.6.
func TestOwes(t *testing.T) {
	lots := []api.Lot{lot(0, 0, 5, 0, 9, 100), lot(1, 1, 5, 0, 9, 205), lot(2, 3, 5, 0, 9, 400), lot(3, 3, 5, 0, 9, 800), lot(2, 2, 5, 0, 9, 40), lot(1, 1, 6, 0, 9, 50)}
	s := market(lots...)
	expectOwes(t, "all by 8", s, map[int][2]int{8: {100 + 205 + 800 + 40 + 50, 0}, 0: {0, 90}, 1: {0, 185 + 45}, 2: {0, 36}, 3: {0, 720}})
	s.Bids[1].Member, s.Bids[3].Member, s.Bids[5].Member = 0, 2, 0
	expectOwes(t, "by others", s, map[int][2]int{8: {140, 0}, 0: {255, 90}, 1: {0, 230}, 2: {800, 36}, 3: {0, 720}})
	s.Recalled = []int{1, 4}
	expectOwes(t, "recalled", s, map[int][2]int{8: {100, 0}, 0: {50, 90}, 1: {0, 45}, 2: {800, 0}, 3: {0, 720}})
	s.Bids = nil
	expectOwes(t, "no bids", s, nil)
	expectOwes(t, "no lots", market(), nil)
}

// TestDeeds: P11.7.
func TestDeeds(t *testing.T) {
	lots := []api.Lot{lot(2, 2, 9, 0, 9, 100), lot(1, 3, 5, 0, 9, 100), lot(0, 0, 0, 0, 9, 100), lot(1, 1, 5, 0, 9, 2000), lot(1, 1, 4, 0, 9, 100)}
	three := func(change func(s *api.Stud)) api.Sale {
		s := market(lots...)
		s.Bids[2].Member = 6
		change(&s.Stud)
		return s
	}
	from := func(id int) []api.Deed {
		return []api.Deed{deed(id, 9, 12, 2, 8), deed(id+1, 0, 10, 0, 6), deed(id+2, 4, 11, 1, 8)}
	}
	other := func(ids ...int) func(s *api.Stud) {
		return func(s *api.Stud) {
			for _, id := range ids {
				s.Deeds = append(s.Deeds, deed(id, 3, 500, 1, 2))
			}
		}
	}
	expectDeeds(t, "no deeds", three(other()), from(0)...)
	expectDeeds(t, "the deed 0", three(other(0)), from(1)...)
	expectDeeds(t, "the greatest one", three(other(17, 40, 3)), from(41)...)
	expectDeeds(t, "one that was recalled", three(func(s *api.Stud) { other(17, 40, 3)(s); s.Voided = []int{40} }), from(41)...)
	expectDeeds(t, "a recall alone", three(func(s *api.Stud) { s.Voided = []int{40} }), from(0)...)
	expectDeeds(t, "the last Ids", three(other(96)), from(97)...)
	for _, id := range []int{97, 98, 99} {
		if got, e := sales.Deeds(three(other(id))); len(got) > 0 || e != api.ErrMany {
			t.Errorf("behind %d: Deeds = %v, %d", id, got, e)
		}
	}
	one := market(lots[1:3]...)
	one.Stud.Deeds = []api.Deed{deed(98, 3, 500, 1, 2)}
	expectDeeds(t, "the last Id", one, deed(99, 0, 10, 0, 8))
	one.Stud.Deeds[0].Id = 99
	if got, e := sales.Deeds(one); len(got) > 0 || e != api.ErrMany {
		t.Errorf("no Id: Deeds = %v, %d", got, e)
	}
	expectOwes(t, "no Id", one, map[int][2]int{8: {100, 0}, 0: {0, 90}})
	one.Recalled = []int{1}
	expectDeeds(t, "nothing is sold", one)
	expectDeeds(t, "no lots", market())
	all := market(slices.Repeat(lots[:1], api.MaxLots)...)
	var want []api.Deed
	for id := range api.MaxLots {
		want = append(want, deed(id, 9, 12, 2, 8))
	}
	expectDeeds(t, "one bird often", all, want...)
}
