package prizes_test

import (
	"math"
	"reflect"
	"slices"
	"strconv"
	"testing"

	"squeaker/api"
	"squeaker/prizes"
)

func span(low, high int) api.Span { return api.Span{Low: low, High: high} }

func racer(bird, owner, rank, day int, pools ...int) api.Racer {
	return api.Racer{Bird: bird, Owner: owner, Rank: rank, Day: day, Pools: pools}
}

func byTable(stake, cut int, table ...int) api.Pool {
	return api.Pool{Stake: stake, Cut: cut, Kind: api.ByTable, Table: table}
}

func byQuota(stake, cut, quota int) api.Pool {
	return api.Pool{Stake: stake, Cut: cut, Kind: api.ByQuota, Quota: quota}
}

func toFirst(stake, cut int) api.Pool { return api.Pool{Stake: stake, Cut: cut, Kind: api.ToFirst} }

// onFirstDay is a pool of the first day only.
func onFirstDay(p api.Pool) api.Pool {
	p.FirstDay = true
	return p
}

// example is the race R of the chapter.
func example() api.Race {
	return api.Race{
		Racers: []api.Racer{
			racer(11, 1, 1, 1, 0, 1, 2), racer(12, 2, 2, 1, 0, 1), racer(13, 1, 2, 1, 0, 1, 2),
			racer(14, 3, 1, 2, 0, 1), racer(15, 2, 0, 0, 0, 2),
		},
		Pools:    []api.Pool{byTable(1000, 100, 500, 300, 100), byQuota(333, 0, 2), onFirstDay(toFirst(500, 0))},
		Protests: []int{11, 13},
	}
}

// changed returns the example with something changed.
func changed(change func(r *api.Race)) api.Race {
	r := example()
	change(&r)
	return r
}

// protested returns a race with protests.
func protested(r api.Race, birds ...int) api.Race {
	r.Protests = birds
	return r
}

// An arrival is a bird, its rank and its day.
type arrival [3]int

// of is a race with one pool, for which all birds are nominated.
func of(p api.Pool, arrivals ...arrival) api.Race {
	r := api.Race{Pools: []api.Pool{p}}
	for _, a := range arrivals {
		r.Racers = append(r.Racers, racer(a[0], 1, a[1], a[2], 0))
	}
	return r
}

// inOrder is as many birds as are wanted, with rings from 1 on, who came one after the other.
func inOrder(birds int) []arrival {
	var out []arrival
	for i := range birds {
		out = append(out, arrival{i + 1, i + 1, 1})
	}
	return out
}

// together is as many birds as are wanted, who tie.
func together(birds, rank, day int) []arrival {
	var out []arrival
	for i := range birds {
		out = append(out, arrival{i + 1, rank, day})
	}
	return out
}

// absent is as many birds as are wanted, who are not home.
func absent(birds int) []arrival { return together(birds, 0, 0) }

// largest is as large as a race can be.
func largest() api.Race {
	r := api.Race{Pools: []api.Pool{
		byTable(api.MaxStake, 0, 1000, 0, 0, 0, 0, 0, 0, 0), byQuota(api.MaxStake, 1000, 1), toFirst(api.MaxStake, 1),
		byTable(api.MaxStake, 999, slices.Repeat([]int{125}, 8)...), byQuota(api.MaxStake, 0, api.MaxQuota), onFirstDay(toFirst(api.MaxStake, 0)),
	}}
	for i := range api.MaxRacers {
		r.Racers = append(r.Racers, racer(api.MaxRing-i, api.MaxOwners-i, 1+i, 1+i%2, 0, 1, 2, 3, 4, 5))
	}
	r.Protests = []int{9988, 9997, 9998, 9999}
	return r
}

// tooFarFrom returns numbers that are not within limits.
func tooFarFrom(low, high int) []int { return []int{low - 1, high + 1, math.MinInt, math.MaxInt} }

// A field is a number of a race, the limits of it, and how it is set.
type field struct {
	name      string
	low, high int
	set       func(r *api.Race, n int)
}

// fields returns all numbers of a race that have limits.
func fields() []field {
	out := []field{
		{"Kind with nothing", 3, 3, func(r *api.Race, n int) { r.Pools[2].Kind = n }},
		{"Kind with a quota", 2, 2, func(r *api.Race, n int) { r.Pools[1].Kind = n }},
		{"Kind with a table", 1, 1, func(r *api.Race, n int) { r.Pools[0].Kind = n }},
		{"Quota", 1, api.MaxQuota, func(r *api.Race, n int) { r.Pools[1].Quota = n }},
		{"Quota of a table", 0, 0, func(r *api.Race, n int) { r.Pools[0].Quota = n }},
		{"Quota of the first one", 0, 0, func(r *api.Race, n int) { r.Pools[2].Quota = n }},
		{"the first number of the table", 0, 600, func(r *api.Race, n int) { r.Pools[0].Table[0] = n }},
		{"the last number of the table", 0, 200, func(r *api.Race, n int) { r.Pools[0].Table[2] = n }},
		{"the only number of the table", 0, 1000, func(r *api.Race, n int) { r.Pools[0].Table = []int{n} }},
		{"a number beside 0", 0, 1000, func(r *api.Race, n int) { r.Pools[0].Table = []int{0, n, 0} }},
		{"Rank of no day", 0, 0, func(r *api.Race, n int) { r.Racers[4].Rank = n }},
		{"Day of no rank", 0, 0, func(r *api.Race, n int) { r.Racers[4].Day = n }},
		{"the first protest", 11, 12, func(r *api.Race, n int) { r.Protests[0] = n }},
		{"the last protest", 12, 15, func(r *api.Race, n int) { r.Protests[1] = n }},
		{"the only protest", 11, 15, func(r *api.Race, n int) { r.Protests = []int{n} }},
	}
	for i := range example().Pools {
		of := " of the pool " + strconv.Itoa(i)
		out = append(out,
			field{"Stake" + of, 0, api.MaxStake, func(r *api.Race, n int) { r.Pools[i].Stake = n }},
			field{"Cut" + of, 0, 1000, func(r *api.Race, n int) { r.Pools[i].Cut = n }})
	}
	for i := range example().Racers {
		of := " of the racer " + strconv.Itoa(i)
		out = append(out,
			field{"Bird" + of, 0, api.MaxRing, func(r *api.Race, n int) { r.Racers[i].Bird, r.Protests = n, nil }},
			field{"Owner" + of, 0, api.MaxOwners, func(r *api.Race, n int) { r.Racers[i].Owner = n }},
			field{"the only pool" + of, 0, 2, func(r *api.Race, n int) { r.Racers[i].Pools = []int{n} }},
			field{"the last pool" + of, 1, 2, func(r *api.Race, n int) { r.Racers[i].Pools = []int{0, n} }},
			field{"the first pool" + of, 0, 1, func(r *api.Race, n int) { r.Racers[i].Pools = []int{n, 2} }})
	}
	for i := range example().Racers[:4] {
		of := " of the racer " + strconv.Itoa(i)
		out = append(out,
			field{"Rank" + of, 1, api.MaxRacers, func(r *api.Race, n int) { r.Racers[i].Rank = n }},
			field{"Day" + of, 1, 2, func(r *api.Race, n int) { r.Racers[i].Day = n }})
	}
	return out
}

// invalid returns races that are not valid, by what is broken.
func invalid() map[string]api.Race {
	out := map[string]api.Race{
		"a racer too many":               of(toFirst(1, 0), together(api.MaxRacers+1, 1, 1)...),
		"a pool too many":                {Pools: slices.Repeat([]api.Pool{toFirst(1, 0)}, api.MaxPools+1)},
		"a protest too many":             protested(of(toFirst(1, 0), inOrder(5)...), 1, 2, 3, 4, 5),
		"one racer twice":                changed(func(r *api.Race) { r.Racers = append(r.Racers, r.Racers[0]) }),
		"one ring twice":                 changed(func(r *api.Race) { r.Racers[4].Bird = 12 }),
		"one ring twice, one after":      changed(func(r *api.Race) { r.Racers[3].Bird = 15 }),
		"not home, and twice":            of(toFirst(1, 0), arrival{7, 0, 0}, arrival{7, 1, 1}),
		"no pools":                       changed(func(r *api.Race) { r.Pools = nil }),
		"a pool too few":                 changed(func(r *api.Race) { r.Pools = r.Pools[:2] }),
		"a racer for a pool twice":       changed(func(r *api.Race) { r.Racers[3].Pools = []int{0, 0} }),
		"a racer for the last one twice": changed(func(r *api.Race) { r.Racers[3].Pools = []int{0, 1, 1} }),
		"pools exchanged":                changed(func(r *api.Race) { r.Racers[3].Pools = []int{1, 0} }),
		"pools in no order":              changed(func(r *api.Race) { r.Racers[3].Pools = []int{0, 2, 1} }),
		"protests exchanged":             changed(func(r *api.Race) { r.Protests = []int{13, 11} }),
		"a protest twice":                changed(func(r *api.Race) { r.Protests = []int{11, 11} }),
		"a protest twice, at the end":    changed(func(r *api.Race) { r.Protests = []int{11, 13, 13} }),
		"a protest against nobody":       changed(func(r *api.Race) { r.Racers = slices.Delete(r.Racers, 0, 1) }),
		"a protest without birds":        {Protests: []int{0}},
		"a table of no numbers":          changed(func(r *api.Race) { r.Pools[0].Table = nil }),
		"a table of too many numbers":    changed(func(r *api.Race) { r.Pools[0].Table = make([]int, api.MaxTable+1) }),
		"a table of too great a sum":     changed(func(r *api.Race) { r.Pools[0].Table = []int{500, 501} }),
		"a table of greatest numbers":    changed(func(r *api.Race) { r.Pools[0].Table = []int{1000, 1000, 1000} }),
		"a table with a number below 0":  changed(func(r *api.Race) { r.Pools[0].Table = []int{1000, 1, -1} }),
		"a table beyond all numbers":     changed(func(r *api.Race) { r.Pools[0].Table = []int{math.MaxInt, math.MaxInt, 2} }),
		"a table beside a quota":         changed(func(r *api.Race) { r.Pools[1].Table = []int{100} }),
		"a table of 0 beside a quota":    changed(func(r *api.Race) { r.Pools[1].Table = []int{0} }),
		"a table for the first one":      changed(func(r *api.Race) { r.Pools[2].Table = []int{1000} }),
		"a table of 0 for the first one": changed(func(r *api.Race) { r.Pools[2].Table = []int{0} }),
		"a pool of no kind":              {Pools: make([]api.Pool, 1)},
		"another kind, with a table":     {Pools: []api.Pool{{Kind: 4, Table: []int{1000}}}},
		"another kind, with a quota":     {Pools: []api.Pool{{Kind: 4, Quota: 1}}},
		"a pool without birds":           changed(func(r *api.Race) { r.Pools = append(r.Pools, toFirst(-1, 0)) }),
	}
	for _, f := range fields() {
		for _, n := range tooFarFrom(f.low, f.high) {
			out[f.name+" "+strconv.Itoa(n)] = changed(func(r *api.Race) { f.set(r, n) })
		}
	}
	return out
}

// valid returns races that are valid, though they look like some that are not.
func valid() map[string]api.Race {
	out := map[string]api.Race{
		"no race":                       {},
		"empty, not nil":                {Racers: []api.Racer{}, Pools: []api.Pool{}, Protests: []int{}},
		"the example":                   example(),
		"the largest":                   largest(),
		"no racers":                     {Pools: example().Pools},
		"no pools":                      {Racers: []api.Racer{racer(0, 0, 1, 1), racer(9999, 99, 12, 2), racer(1, 0, 0, 0)}, Protests: []int{0, 1, 9999}},
		"empty tables":                  changed(func(r *api.Race) { r.Pools[1].Table, r.Pools[2].Table = []int{}, []int{} }),
		"nobody is nominated":           changed(func(r *api.Race) { r.Racers[0].Pools = nil; r.Racers[1].Pools = []int{} }),
		"a protest against one away":    changed(func(r *api.Race) { r.Protests = []int{15} }),
		"as many protests as there can": changed(func(r *api.Race) { r.Protests = []int{11, 12, 14, 15} }),
		"the whole table":               changed(func(r *api.Race) { r.Pools[0].Table = []int{500, 500} }),
		"the greatest numbers last":     changed(func(r *api.Race) { r.Pools[0].Table = []int{0, 0, 0, 1, 2, 3, 4, 990} }),
		"all tie":                       of(toFirst(1, 0), together(api.MaxRacers, 12, 2)...),
		"all are away":                  of(toFirst(1, 0), absent(api.MaxRacers)...),
		"one pool after another":        {Pools: slices.Repeat([]api.Pool{toFirst(1, 0)}, api.MaxPools), Racers: []api.Racer{racer(1, 1, 1, 1, 0, 1, 2, 3, 4, 5)}},
		"all of one owner":              changed(func(r *api.Race) { r.Racers[1].Owner, r.Racers[3].Owner, r.Racers[4].Owner = 1, 1, 1 }),
		"the first day for all kinds":   changed(func(r *api.Race) { r.Pools[0].FirstDay, r.Pools[1].FirstDay = true, true }),
		"the second day before":         changed(func(r *api.Race) { r.Racers[0], r.Racers[3] = r.Racers[3], r.Racers[0] }),
	}
	for _, f := range fields() {
		for _, n := range []int{f.low, f.high} {
			out[f.name+" "+strconv.Itoa(n)] = changed(func(r *api.Race) { f.set(r, n) })
		}
	}
	return out
}

// An outcome is what a function returned, without its error, and the error.
type outcome struct {
	results []any
	e       api.Errno
}

// A question is all that the functions ask beside the race.
type question struct{ pool, bird int }

// ask calls each function.
func ask(r api.Race, q question) map[string]outcome {
	out := map[string]outcome{"Check": {nil, prizes.Check(r)}}
	put := func(name string, e api.Errno, results ...any) {
		for i := range results {
			results[i] = tidy(results[i])
		}
		out[name] = outcome{results, e}
	}
	pot, e := prizes.Pot(r, q.pool)
	put("Pot", e, pot)
	places, e := prizes.Places(r, q.pool)
	put("Places", e, places)
	order, e := prizes.Order(r, q.pool)
	put("Order", e, order)
	list, e := prizes.Prizes(r, q.pool)
	put("Prizes", e, list)
	purses, e := prizes.Purses(r)
	put("Purses", e, purses)
	can, e := prizes.Can(r, q.pool, q.bird)
	put("Can", e, can)
	sure, maybe, e := prizes.First(r, q.pool)
	put("First", e, sure, maybe)
	return out
}

// tidy returns a result, but nil for an empty slice, which is the same.
func tidy(result any) any {
	v := reflect.ValueOf(result)
	if v.Kind() == reflect.Slice && v.Len() == 0 {
		return reflect.Zero(v.Type()).Interface()
	}
	return result
}

// expectErrors checks the errors of all functions: others, but for those that are named, which have ErrArg; and the zero
// values.
func expectErrors(t *testing.T, name string, got map[string]outcome, others api.Errno, named ...string) {
	t.Helper()
	for function, o := range got {
		want := others
		if slices.Contains(named, function) {
			want = api.ErrArg
		}
		if o.e != want {
			t.Errorf("%s: %s has the error %d, not %d", name, function, o.e, want)
		}
		for _, result := range o.results {
			if o.e != api.OK && !reflect.ValueOf(result).IsZero() {
				t.Errorf("%s: %s returns %v with an error", name, function, result)
			}
		}
	}
}

// ofPools are the functions that ask for a pool.
func ofPools() []string { return []string{"Pot", "Places", "Order", "Prizes", "Can", "First"} }

// questions returns questions to the example, with the functions for which they are wrong.
func questions() map[question][]string {
	out := map[question][]string{{0, 15}: nil, {1, 14}: nil, {2, 11}: nil}
	for _, pool := range tooFarFrom(0, 2) {
		out[question{pool, 11}] = ofPools()
		out[question{pool, 99}] = ofPools()
	}
	for _, bird := range []int{-1, 0, 1, 10, 16, api.MaxRing, api.MaxRing + 1, math.MinInt, math.MaxInt} {
		for pool := range 3 {
			out[question{pool, bird}] = []string{"Can"}
		}
	}
	for _, q := range []question{{1, 15}, {2, 12}, {2, 14}} {
		out[q] = []string{"Can"}
	}
	return out
}

// TestErrors: P1 and P8.1, with the errors in their order and zero values beside them.
func TestErrors(t *testing.T) {
	for q, wrong := range questions() {
		for name, r := range invalid() {
			expectErrors(t, name, ask(r, q), api.ErrRace)
		}
		expectErrors(t, "the example", ask(example(), q), api.OK, wrong...)
	}
	expectErrors(t, "no pools", ask(valid()["no pools"], question{}), api.OK, ofPools()...)
	expectErrors(t, "no race", ask(api.Race{}, question{}), api.OK, ofPools()...)
	expectErrors(t, "no racers", ask(valid()["no racers"], question{1, 11}), api.OK, "Can")
	expectErrors(t, "the bird 0", ask(of(toFirst(1, 0), arrival{0, 1, 1}), question{0, 0}), api.OK)
}

// TestValid: P1 and P8.1, each function has an answer to each question that is as described.
func TestValid(t *testing.T) {
	for name, r := range valid() {
		if e := prizes.Check(r); e != api.OK {
			t.Errorf("%s: Check = %d", name, e)
		}
		if _, e := prizes.Purses(r); e != api.OK {
			t.Errorf("%s: Purses has the error %d", name, e)
		}
		for pool := range r.Pools {
			for _, bird := range nominated(r, pool) {
				expectErrors(t, name, ask(r, question{pool, bird}), api.OK)
			}
			expectErrors(t, name, ask(r, question{pool, -1}), api.OK, "Can")
		}
	}
}

// TestHuge: P1, numbers and lists beyond all limits.
func TestHuge(t *testing.T) {
	long := make([]int, 100000)
	for i := range long {
		long[i] = i
	}
	for _, n := range []int{math.MinInt, -1, math.MaxInt} {
		x := api.Racer{Bird: n, Owner: n, Rank: n, Day: n, Pools: []int{n}}
		p := api.Pool{Stake: n, Cut: n, Kind: n, Table: []int{n, n}, Quota: n}
		for kind := range 5 {
			q := p
			q.Kind = kind
			r := api.Race{Racers: []api.Racer{x}, Pools: []api.Pool{q, p}, Protests: []int{n}}
			expectErrors(t, "everywhere", ask(r, question{n, n}), api.ErrRace)
		}
	}
	for name, r := range map[string]api.Race{
		"racers":   {Racers: make([]api.Racer, len(long))},
		"pools":    {Pools: make([]api.Pool, len(long))},
		"protests": {Protests: long},
		"a table":  {Pools: []api.Pool{byTable(1, 1, long...)}},
		"of one":   {Racers: []api.Racer{{Pools: long}}, Pools: []api.Pool{toFirst(1, 0)}},
	} {
		expectErrors(t, name, ask(r, question{}), api.ErrRace)
	}
}

// TestExamples: the chapter's examples.
func TestExamples(t *testing.T) {
	r := example()
	pots := []api.Pot{{Total: 5000, Cut: 500, Left: 4500, Rest: 450}, {Total: 1332, Left: 1332}, {Total: 1500, Left: 1500}}
	places := [][]int{{2250, 1350, 450}, {666, 666}, {1500}}
	for pool := range r.Pools {
		expectPot(t, pool, r, pool, pots[pool])
		expectPlaces(t, pool, r, pool, places[pool]...)
	}
	expectOrder(t, 0, r, 0, []int{11}, []int{12, 13}, []int{14})
	expectOrder(t, 2, r, 2, []int{11}, []int{13})
	expectPrizes(t, 0, r, 0, [][3]int{{11, 2250, 90}, {12, 900, 90}, {13, 900, 90}, {14, 0, 90}, {15, 0, 90}})
	expectPrizes(t, 1, r, 1, [][3]int{{11, 666, 0}, {12, 333, 0}, {13, 333, 0}, {14, 0, 0}})
	expectPurses(t, 0, r, [][3]int{{1, 3666, 5829}, {2, 2833, 1413}, {3, 1333, 90}})
	expectCan(t, 0, r, 0, 12, span(900, 2250))
	expectCan(t, 2, r, 2, 13, span(0, 1500))
	expectFirst(t, 0, r, 0, nil, []int{11, 12, 13})
	expectFirst(t, 2, r, 2, nil, []int{11, 13})
}

func expectPot(t *testing.T, i int, r api.Race, pool int, want api.Pot) {
	t.Helper()
	if pot, e := prizes.Pot(r, pool); pot != want || e != api.OK {
		t.Errorf("%d: Pot = %v, %d, not %v", i, pot, e, want)
	}
}

func expectPlaces(t *testing.T, i int, r api.Race, pool int, want ...int) {
	t.Helper()
	if l, e := prizes.Places(r, pool); !slices.Equal(l, want) || e != api.OK {
		t.Errorf("%d: Places = %v, %d, not %v", i, l, e, want)
	}
}

func expectOrder(t *testing.T, i int, r api.Race, pool int, want ...[]int) {
	t.Helper()
	if l, e := prizes.Order(r, pool); !slices.EqualFunc(l, want, slices.Equal) || e != api.OK {
		t.Errorf("%d: Order = %v, %d, not %v", i, l, e, want)
	}
}

func expectPrizes(t *testing.T, i int, r api.Race, pool int, want [][3]int) {
	t.Helper()
	equal := func(p api.Prize, x [3]int) bool { return p == api.Prize{Bird: x[0], Won: x[1], Back: x[2]} }
	if l, e := prizes.Prizes(r, pool); !slices.EqualFunc(l, want, equal) || e != api.OK {
		t.Errorf("%d: Prizes = %v, %d, not %v", i, l, e, want)
	}
}

func expectPurses(t *testing.T, i int, r api.Race, want [][3]int) {
	t.Helper()
	equal := func(p api.Purse, x [3]int) bool { return p == api.Purse{Owner: x[0], Staked: x[1], Paid: x[2]} }
	if l, e := prizes.Purses(r); !slices.EqualFunc(l, want, equal) || e != api.OK {
		t.Errorf("%d: Purses = %v, %d, not %v", i, l, e, want)
	}
}

func expectCan(t *testing.T, i int, r api.Race, pool, bird int, want api.Span) {
	t.Helper()
	if can, e := prizes.Can(r, pool, bird); can != want || e != api.OK {
		t.Errorf("%d: Can of %d = %v, %d, not %v", i, bird, can, e, want)
	}
}

func expectFirst(t *testing.T, i int, r api.Race, pool int, sure, maybe []int) {
	t.Helper()
	if l, m, e := prizes.First(r, pool); !slices.Equal(l, sure) || !slices.Equal(m, maybe) || e != api.OK {
		t.Errorf("%d: First = %v, %v, %d, not %v, %v", i, l, m, e, sure, maybe)
	}
}

// TestPot: P8.2.
func TestPot(t *testing.T) {
	for i, c := range []struct {
		r    api.Race
		want api.Pot
	}{
		// what the club keeps is rounded down
		{of(toFirst(333, 1), inOrder(3)...), api.Pot{Total: 999, Left: 999}}, {of(toFirst(250, 1), inOrder(4)...), api.Pot{Total: 1000, Cut: 1, Left: 999}},
		{of(toFirst(1001, 500), inOrder(1)...), api.Pot{Total: 1001, Cut: 500, Left: 501}}, {of(toFirst(7, 999), inOrder(1)...), api.Pot{Total: 7, Cut: 6, Left: 1}},
		{of(toFirst(7, 1000), inOrder(2)...), api.Pot{Total: 14, Cut: 14}}, {of(toFirst(7, 0), inOrder(2)...), api.Pot{Total: 14, Left: 14}}, {of(toFirst(0, 500), inOrder(2)...), api.Pot{}},
		// of all birds together, not of each of them
		{of(toFirst(999, 1), inOrder(12)...), api.Pot{Total: 11988, Cut: 11, Left: 11977}},
		// those that are not home, or late, are nominated, too
		{of(toFirst(10, 0), absent(3)...), api.Pot{Total: 30, Left: 30, Rest: 30}}, {of(onFirstDay(toFirst(10, 100)), together(3, 1, 2)...), api.Pot{Total: 30, Cut: 3, Left: 27, Rest: 27}},
		{of(toFirst(10, 0), arrival{1, 0, 0}, arrival{2, 9, 2}), api.Pot{Total: 20, Left: 20}},
		// the rest: of the table, by rounding, of places that nobody takes
		{of(byTable(100, 0, 500, 300), inOrder(2)...), api.Pot{Total: 200, Left: 200, Rest: 40}}, {of(byTable(100, 0, 500, 300), inOrder(1)...), api.Pot{Total: 100, Left: 100, Rest: 50}},
		{of(byTable(11, 0, 333, 333, 334), inOrder(3)...), api.Pot{Total: 33, Left: 33, Rest: 2}}, {of(byTable(11, 0, 1000), inOrder(3)...), api.Pot{Total: 33, Left: 33}},
		{of(byTable(11, 0, 0, 0, 0), inOrder(3)...), api.Pot{Total: 33, Left: 33, Rest: 33}}, {of(byTable(11, 0, 1, 2), inOrder(3)...), api.Pot{Total: 33, Left: 33, Rest: 33}},
		{of(byQuota(10, 0, 4), inOrder(10)...), api.Pot{Total: 100, Left: 100, Rest: 1}}, {of(byQuota(10, 0, 1), arrival{1, 1, 1}, arrival{2, 0, 0}), api.Pot{Total: 20, Left: 20, Rest: 10}},
		{of(byQuota(10, 0, 1), absent(2)...), api.Pot{Total: 20, Left: 20, Rest: 20}}, {of(byQuota(10, 950, 3), inOrder(4)...), api.Pot{Total: 40, Cut: 38, Left: 2}},
		// cents of places that several birds share are not left
		{of(byTable(11, 0, 1000), together(3, 1, 1)...), api.Pot{Total: 33, Left: 33}}, {of(toFirst(5, 0), together(4, 1, 1)...), api.Pot{Total: 20, Left: 20}},
		// without birds
		{of(toFirst(10, 500)), api.Pot{}}, {of(byTable(10, 500, 1000)), api.Pot{}}, {of(byQuota(10, 500, 1)), api.Pot{}},
		// protests change nothing
		{protested(of(toFirst(10, 0), inOrder(2)...), 1, 2), api.Pot{Total: 20, Left: 20}}, {protested(of(byTable(100, 0, 500, 300), inOrder(2)...), 2), api.Pot{Total: 200, Left: 200, Rest: 40}},
		{largest(), api.Pot{Total: 1200000, Left: 1200000}},
	} {
		expectPot(t, i, c.r, 0, c.want)
	}
	expectPot(t, 1, largest(), 1, api.Pot{Total: 1200000, Cut: 1200000})
	expectPot(t, 2, largest(), 2, api.Pot{Total: 1200000, Cut: 1200, Left: 1198800})
	expectPot(t, 3, largest(), 3, api.Pot{Total: 1200000, Cut: 1198800, Left: 1200})
}

// TestPlaces: P8.3.
func TestPlaces(t *testing.T) {
	for i, c := range []struct {
		r    api.Race
		want []int
	}{
		{of(byTable(10, 0, 500, 300), inOrder(3)...), []int{15, 9}}, {of(byTable(11, 0, 333, 333, 334), inOrder(1)...), []int{3, 3, 3}}, {of(byTable(999, 0, 1, 2, 0), inOrder(1)...), []int{0, 1, 0}},
		{of(byTable(10, 100, 100, 500, 400), inOrder(1)...), []int{0, 4, 3}}, {of(byTable(10, 0, 1000), inOrder(12)...), []int{120}}, {of(byTable(10, 1000, 500, 500), inOrder(12)...), []int{0, 0}},
		{of(byTable(10, 0, 125, 125, 125, 125, 125, 125, 125, 125), absent(1)...), slices.Repeat([]int{1}, 8)}, {of(byTable(10, 0, 500, 300)), []int{0, 0}}, {of(byTable(0, 0, 500), inOrder(1)...), []int{0}},
		// as many as the birds divided by the quota, rounded up
		{of(byQuota(10, 0, 20), inOrder(1)...), []int{10}}, {of(byQuota(10, 0, 20), inOrder(12)...), []int{120}}, {of(byQuota(10, 0, 12), inOrder(12)...), []int{120}}, {of(byQuota(10, 0, 11), inOrder(12)...), []int{60, 60}},
		{of(byQuota(10, 0, 5), inOrder(10)...), []int{50, 50}}, {of(byQuota(10, 0, 5), inOrder(11)...), []int{36, 36, 36}}, {of(byQuota(10, 50, 5), inOrder(11)...), []int{35, 35, 35}}, {of(byQuota(3, 0, 1), inOrder(4)...), []int{3, 3, 3, 3}},
		{of(byQuota(10, 0, 3), absent(4)...), []int{20, 20}}, {of(onFirstDay(byQuota(10, 0, 3)), together(4, 1, 2)...), []int{20, 20}}, {of(byQuota(10, 0, 3)), nil}, {of(byQuota(0, 0, 3), inOrder(4)...), []int{0, 0}}, {of(byQuota(1, 999, 1), inOrder(2)...), []int{0, 0}},
		{of(toFirst(10, 0), inOrder(3)...), []int{30}}, {of(toFirst(10, 100), absent(3)...), []int{27}}, {of(toFirst(10, 0)), []int{0}}, {of(toFirst(10, 0), together(3, 1, 1)...), []int{30}},
		{protested(of(byQuota(10, 0, 2), inOrder(3)...), 1, 2, 3), []int{15, 15}}, {largest(), []int{1200000, 0, 0, 0, 0, 0, 0, 0}},
	} {
		expectPlaces(t, i, c.r, 0, c.want...)
	}
	expectPlaces(t, 1, largest(), 1, slices.Repeat([]int{0}, 12)...)
	expectPlaces(t, 3, largest(), 3, slices.Repeat([]int{150}, 8)...)
	expectPlaces(t, 4, largest(), 4, 1200000)
}

// TestOrder: P8.4.
func TestOrder(t *testing.T) {
	p := byTable(10, 0, 500, 500)
	some := api.Race{Pools: []api.Pool{p, p}, Racers: []api.Racer{racer(5, 1, 1, 1, 1), racer(6, 1, 2, 1, 0), racer(7, 1, 2, 1), racer(4, 1, 2, 1, 0, 1)}}
	for i, c := range []struct {
		r    api.Race
		want [][]int
	}{
		{of(p), nil}, {of(p, absent(3)...), nil}, {of(p, inOrder(3)...), [][]int{{1}, {2}, {3}}}, {of(p, together(4, 7, 2)...), [][]int{{1, 2, 3, 4}}},
		// by the day, then by the rank, with the lowest rings of those that tie first
		{of(p, arrival{1, 1, 2}, arrival{2, 12, 1}), [][]int{{2}, {1}}}, {of(p, arrival{1, 12, 1}, arrival{2, 3, 1}, arrival{3, 7, 1}), [][]int{{2}, {3}, {1}}},
		{of(p, arrival{9, 4, 1}, arrival{8, 4, 2}, arrival{7, 4, 1}, arrival{6, 4, 2}), [][]int{{7, 9}, {6, 8}}}, {of(p, arrival{0, 2, 2}, arrival{9999, 2, 2}, arrival{5, 2, 2}, arrival{4, 1, 2}), [][]int{{4}, {0, 5, 9999}}},
		{of(p, arrival{3, 2, 1}, arrival{2, 3, 1}, arrival{1, 2, 1}, arrival{4, 3, 1}), [][]int{{1, 3}, {2, 4}}},
		{of(p, arrival{3, 0, 0}, arrival{2, 1, 2}, arrival{1, 0, 0}, arrival{4, 1, 1}), [][]int{{4}, {2}}},
		// only the first day
		{of(onFirstDay(p), arrival{1, 1, 2}, arrival{2, 5, 1}, arrival{3, 0, 0}, arrival{4, 2, 1}, arrival{5, 5, 2}), [][]int{{4}, {2}}}, {of(onFirstDay(p), together(2, 1, 2)...), nil},
		// those without a prize, too
		{of(toFirst(0, 0), inOrder(4)...), [][]int{{1}, {2}, {3}, {4}}}, {of(byQuota(1, 0, 20), inOrder(3)...), [][]int{{1}, {2}, {3}}},
		// only those that are nominated
		{some, [][]int{{4, 6}}},
		// protests change nothing
		{protested(of(p, inOrder(3)...), 1, 2, 3), [][]int{{1}, {2}, {3}}},
	} {
		expectOrder(t, i, c.r, 0, c.want...)
	}
	expectOrder(t, 1, some, 1, []int{5}, []int{4})
	expectOrder(t, 4, largest(), 5, []int{9999}, []int{9997}, []int{9995}, []int{9993}, []int{9991}, []int{9989})
}

// wonOf returns prizes of the birds from 1 on, without what goes back.
func wonOf(amounts ...int) [][3]int {
	var out [][3]int
	for i, amount := range amounts {
		out = append(out, [3]int{i + 1, amount, 0})
	}
	return out
}

// backOf returns what goes back to the birds from 1 on, who have won nothing.
func backOf(amounts ...int) [][3]int {
	var out [][3]int
	for i, amount := range amounts {
		out = append(out, [3]int{i + 1, 0, amount})
	}
	return out
}

// TestPrizes: P8.5, what was won, and what goes back.
func TestPrizes(t *testing.T) {
	whole := byTable(100, 0, 400, 300, 200, 100)
	for i, c := range []struct {
		r    api.Race
		want [][3]int
	}{
		{of(whole, inOrder(4)...), wonOf(160, 120, 80, 40)}, {of(whole, inOrder(5)...), wonOf(200, 150, 100, 50, 0)},
		// those that tie share the places that they take, and the next ones take the next places
		{of(whole, together(4, 1, 1)...), wonOf(100, 100, 100, 100)}, {of(whole, arrival{1, 1, 1}, arrival{2, 1, 1}, arrival{3, 2, 1}, arrival{4, 3, 1}), wonOf(140, 140, 80, 40)},
		{of(whole, arrival{1, 1, 1}, arrival{2, 2, 1}, arrival{3, 2, 1}, arrival{4, 2, 1}), wonOf(160, 80, 80, 80)}, {of(whole, arrival{1, 1, 1}, arrival{2, 1, 1}, arrival{3, 1, 1}, arrival{4, 9, 1}), wonOf(120, 120, 120, 40)},
		{of(whole, arrival{1, 1, 2}, arrival{2, 1, 2}, arrival{3, 5, 1}, arrival{4, 5, 1}), wonOf(60, 60, 140, 140)},
		// of the places that there are not they get nothing
		{of(toFirst(100, 0), together(5, 3, 2)...), wonOf(100, 100, 100, 100, 100)}, {of(byTable(100, 0, 700, 300), arrival{1, 1, 1}, arrival{2, 2, 1}, arrival{3, 2, 1}, arrival{4, 2, 1}), wonOf(280, 40, 40, 40)},
		{of(byTable(100, 0, 700, 300), arrival{1, 1, 1}, arrival{2, 1, 1}, arrival{3, 2, 1}, arrival{4, 2, 1}), wonOf(200, 200, 0, 0)}, {of(toFirst(100, 0), inOrder(3)...), wonOf(300, 0, 0)},
		// the cents that remain go to the lowest rings
		{of(toFirst(5, 0), arrival{3, 1, 1}, arrival{2, 1, 1}, arrival{1, 1, 1}, arrival{4, 2, 1}), wonOf(7, 7, 6, 0)}, {of(toFirst(5, 0), arrival{4, 1, 1}, arrival{2, 1, 1}, arrival{1, 2, 1}, arrival{3, 1, 1}), wonOf(0, 7, 7, 6)},
		{of(toFirst(1, 0), together(2, 1, 1)...), wonOf(1, 1)}, {of(toFirst(1, 500), together(3, 1, 1)...), wonOf(1, 1, 0)}, {of(toFirst(1, 750), together(12, 1, 1)...), wonOf(1, 1, 1, 0, 0, 0, 0, 0, 0, 0, 0, 0)},
		{of(byTable(1, 0, 500, 500), arrival{1, 1, 1}, arrival{2, 1, 1}, arrival{3, 1, 1}, arrival{4, 2, 1}), wonOf(2, 1, 1, 0)},
		// by the quota
		{of(byQuota(10, 0, 2), inOrder(4)...), wonOf(20, 20, 0, 0)}, {of(byQuota(10, 0, 2), arrival{1, 1, 1}, arrival{2, 2, 1}, arrival{3, 2, 1}, arrival{4, 2, 1}), wonOf(20, 7, 7, 6)},
		// not by the order of the amounts
		{of(byTable(10, 0, 0, 1000), inOrder(3)...), wonOf(0, 30, 0)}, {of(byTable(10, 0, 100, 200, 700), arrival{1, 1, 1}, arrival{2, 1, 1}, arrival{3, 2, 1}), wonOf(5, 4, 21)},
		// what is left goes back to all that are nominated, home or not
		{of(toFirst(10, 0), absent(3)...), backOf(10, 10, 10)}, {of(toFirst(10, 100), absent(3)...), backOf(9, 9, 9)}, {of(toFirst(10, 50), absent(3)...), backOf(10, 10, 9)}, {of(toFirst(10, 75), absent(3)...), backOf(10, 9, 9)},
		{of(onFirstDay(toFirst(10, 0)), arrival{1, 1, 2}, arrival{3, 0, 0}, arrival{2, 1, 2}), backOf(10, 10, 10)},
		{of(byTable(10, 0, 500, 300), arrival{3, 1, 1}, arrival{2, 0, 0}, arrival{1, 2, 2}), [][3]int{{1, 9, 2}, {2, 0, 2}, {3, 15, 2}}},
		{of(byTable(10, 0, 500, 300), arrival{3, 1, 1}, arrival{2, 0, 0}, arrival{1, 0, 0}), [][3]int{{1, 0, 5}, {2, 0, 5}, {3, 15, 5}}},
		{of(byTable(11, 0, 333, 333, 334), inOrder(4)...), [][3]int{{1, 14, 1}, {2, 14, 1}, {3, 14, 0}, {4, 0, 0}}},
		{of(byQuota(10, 0, 4), arrival{7, 0, 0}, arrival{5, 1, 1}, arrival{9, 0, 0}, arrival{1, 0, 0}, arrival{3, 0, 0}), [][3]int{{1, 0, 5}, {3, 0, 5}, {5, 25, 5}, {7, 0, 5}, {9, 0, 5}}},
		// nothing
		{of(toFirst(10, 0)), nil}, {of(byTable(10, 0, 500)), nil}, {of(byQuota(10, 0, 3)), nil}, {of(toFirst(0, 0), inOrder(2)...), wonOf(0, 0)}, {of(toFirst(9, 1000), inOrder(2)...), wonOf(0, 0)},
		// protests change nothing
		{protested(of(whole, inOrder(4)...), 1, 4), wonOf(160, 120, 80, 40)},
	} {
		expectPrizes(t, i, c.r, 0, c.want)
	}
	expectPrizes(t, 2, example(), 2, [][3]int{{11, 1500, 0}, {13, 0, 0}, {15, 0, 0}})
}

// TestPurses: P8.6.
func TestPurses(t *testing.T) {
	two := api.Race{Pools: []api.Pool{toFirst(100, 100), byTable(10, 0, 500)}, Racers: []api.Racer{
		racer(5, 7, 1, 1, 0, 1), racer(6, 99, 0, 0, 1), racer(7, 0, 3, 2), racer(4, 7, 2, 1, 0),
	}}
	for i, c := range []struct {
		r    api.Race
		want [][3]int
	}{
		{api.Race{}, nil}, {valid()["no racers"], nil}, {two, [][3]int{{0, 0, 0}, {7, 210, 195}, {99, 10, 5}}}, {protested(two, 4, 5), [][3]int{{0, 0, 0}, {7, 210, 195}, {99, 10, 5}}},
		// owners of birds without nominations, and without pools, also have purses
		{valid()["no pools"], [][3]int{{0, 0, 0}, {99, 0, 0}}}, {of(toFirst(10, 0), absent(12)...), [][3]int{{1, 120, 120}}}, {of(toFirst(10, 1000), inOrder(12)...), [][3]int{{1, 120, 0}}},
		{of(byTable(10, 0, 500, 300), arrival{3, 1, 1}, arrival{2, 0, 0}, arrival{1, 2, 2}), [][3]int{{1, 30, 30}}},
		{valid()["all of one owner"], [][3]int{{1, 7832, 7332}}}, {changed(func(r *api.Race) { r.Racers[0].Owner = 9 }), [][3]int{{1, 1833, 1323}, {2, 2833, 1413}, {3, 1333, 90}, {9, 1833, 4506}}},
	} {
		expectPurses(t, i, c.r, c.want)
	}
}

// TestCan: P8.7.
func TestCan(t *testing.T) {
	whole := byTable(100, 0, 400, 300, 200, 100)
	for i, c := range []struct {
		r    api.Race
		want []api.Span // of the birds from 1 on
	}{
		// without protests it is what they have won
		{of(whole, inOrder(4)...), []api.Span{span(160, 160), span(120, 120), span(80, 80), span(40, 40)}},
		// a bird that is struck wins nothing, and those behind it win more
		{protested(of(whole, inOrder(4)...), 1), []api.Span{span(0, 160), span(120, 160), span(80, 120), span(40, 80)}}, {protested(of(whole, inOrder(4)...), 2), []api.Span{span(160, 160), span(0, 120), span(80, 120), span(40, 80)}},
		{protested(of(whole, inOrder(4)...), 4), []api.Span{span(160, 160), span(120, 120), span(80, 80), span(0, 40)}}, {protested(of(whole, inOrder(4)...), 1, 2), []api.Span{span(0, 160), span(0, 160), span(80, 160), span(40, 120)}},
		{protested(of(whole, inOrder(4)...), 1, 2, 3, 4), []api.Span{span(0, 160), span(0, 160), span(0, 160), span(0, 160)}},
		// it stays nominated, so that the pot and the quota are the same
		{protested(of(byQuota(100, 0, 2), inOrder(4)...), 1, 2), []api.Span{span(0, 200), span(0, 200), span(0, 200), span(0, 200)}}, {protested(of(toFirst(100, 0), inOrder(2)...), 1), []api.Span{span(0, 200), span(0, 200)}},
		// those that tie
		{protested(of(toFirst(5, 0), together(3, 1, 1)...), 2), []api.Span{span(5, 8), span(0, 5), span(5, 7)}}, {protested(of(toFirst(1, 0), together(4, 1, 1)...), 1, 2), []api.Span{span(0, 2), span(0, 2), span(1, 2), span(1, 2)}},
		{protested(of(byTable(100, 0, 100, 800, 100), arrival{1, 1, 1}, arrival{2, 2, 1}, arrival{3, 2, 1}), 1), []api.Span{span(0, 30), span(135, 135), span(135, 135)}},
		// neither the least nor the greatest amount is at an end of all cases
		{protested(of(byTable(100, 0, 0, 500, 0, 500), inOrder(4)...), 1, 2, 3), []api.Span{span(0, 0), span(0, 200), span(0, 200), span(0, 200)}},
		{protested(of(byTable(100, 0, 500, 0, 500), inOrder(3)...), 1, 2), []api.Span{span(0, 150), span(0, 150), span(0, 150)}},
		// a protest against a bird that is not home, or late
		{protested(of(whole, arrival{1, 0, 0}, arrival{2, 1, 1}), 1), []api.Span{span(0, 0), span(80, 80)}}, {protested(of(onFirstDay(whole), arrival{1, 1, 2}, arrival{2, 1, 1}), 1), []api.Span{span(0, 0), span(80, 80)}},
		{protested(of(whole, arrival{1, 1, 2}, arrival{2, 1, 1}), 2), []api.Span{span(60, 80), span(0, 80)}}, {protested(of(byTable(100, 0, 0, 1000), inOrder(2)...), 1), []api.Span{span(0, 0), span(0, 200)}},
	} {
		for i, want := range c.want {
			expectCan(t, i, c.r, 0, i+1, want)
		}
		if len(c.want) != len(c.r.Racers) {
			t.Errorf("%d: there are %d spans", i, len(c.want))
		}
	}
	// a protest against a bird that is nominated for another pool only
	other := changed(func(r *api.Race) { r.Racers[0].Pools = []int{1}; r.Protests = []int{11} })
	expectCan(t, 100, other, 0, 12, span(1440, 1440))
	expectCan(t, 101, largest(), 0, 9995, span(0, 1200000))
	expectCan(t, 102, largest(), 0, 9999, span(0, 1200000))
	expectCan(t, 103, largest(), 0, 9998, span(0, 0))
}

// TestFirst: P8.8.
func TestFirst(t *testing.T) {
	p := toFirst(10, 0)
	for i, c := range []struct {
		r           api.Race
		sure, maybe []int
	}{
		{of(p), nil, nil}, {of(p, absent(3)...), nil, nil}, {of(p, inOrder(3)...), []int{1}, nil}, {of(p, together(3, 9, 2)...), []int{1, 2, 3}, nil}, {of(onFirstDay(p), together(3, 9, 2)...), nil, nil},
		{of(p, arrival{9, 2, 1}, arrival{3, 2, 1}, arrival{5, 1, 2}, arrival{1, 3, 1}), []int{3, 9}, nil},
		{protested(of(p, inOrder(3)...), 1), nil, []int{1, 2}}, {protested(of(p, inOrder(3)...), 2), []int{1}, nil}, {protested(of(p, inOrder(3)...), 2, 3), []int{1}, nil}, {protested(of(p, inOrder(3)...), 1, 2), nil, []int{1, 2, 3}},
		{protested(of(p, inOrder(4)...), 1, 3), nil, []int{1, 2}}, {protested(of(p, inOrder(5)...), 1, 2, 3, 4), nil, []int{1, 2, 3, 4, 5}}, {protested(of(p, inOrder(6)...), 1, 2, 3, 4), nil, []int{1, 2, 3, 4, 5}},
		{protested(of(p, arrival{4, 1, 1}, arrival{3, 2, 1}, arrival{1, 3, 1}, arrival{2, 3, 1}), 3, 4), nil, []int{1, 2, 3, 4}},
		// of those that tie some can be sure
		{protested(of(p, together(3, 1, 1)...), 2), []int{1, 3}, []int{2}}, {protested(of(p, together(3, 1, 1)...), 1, 2), []int{3}, []int{1, 2}}, {protested(of(p, together(3, 1, 1)...), 1, 2, 3), nil, []int{1, 2, 3}},
		{protested(of(p, arrival{8, 1, 1}, arrival{7, 1, 1}, arrival{5, 2, 1}), 8), []int{7}, []int{8}}, {protested(of(p, arrival{8, 1, 1}, arrival{7, 1, 1}, arrival{5, 2, 1}), 7, 8), nil, []int{5, 7, 8}},
		// nobody may be left
		{protested(of(p, inOrder(1)...), 1), nil, []int{1}}, {protested(of(p, arrival{1, 0, 0}, arrival{2, 4, 2}), 1, 2), nil, []int{2}}, {protested(of(p, absent(2)...), 1, 2), nil, nil},
		// the first one of the second day
		{protested(of(p, arrival{1, 1, 2}, arrival{2, 9, 1}), 2), nil, []int{1, 2}}, {protested(of(onFirstDay(p), arrival{1, 1, 2}, arrival{2, 9, 1}), 2), nil, []int{2}}, {protested(of(p, arrival{1, 1, 2}, arrival{2, 9, 1}), 1), []int{2}, nil},
		// also without a prize
		{of(byTable(10, 0, 0, 1000), inOrder(2)...), []int{1}, nil}, {of(byTable(0, 0, 0), inOrder(2)...), []int{1}, nil},
		{largest(), nil, []int{9995, 9997, 9999}},
	} {
		expectFirst(t, i, c.r, 0, c.sure, c.maybe)
	}
	// a protest against a bird that is nominated for another pool only
	other := changed(func(r *api.Race) { r.Racers[0].Pools = []int{1}; r.Protests = []int{11} })
	expectFirst(t, 100, other, 0, []int{12, 13}, nil)
	expectFirst(t, 101, other, 1, nil, []int{11, 12, 13})
	expectFirst(t, 102, other, 2, []int{13}, nil)
}

// TestMemory: P1 with R4, no argument is changed, and no result shares memory.
func TestMemory(t *testing.T) {
	// in no order, and with memory behind all lists
	r := api.Race{
		Racers:   append(make([]api.Racer, 0, 9), racer(14, 3, 1, 2, 0, 1), racer(12, 2, 2, 1, 0, 1), racer(15, 2, 0, 0, 0), racer(13, 1, 2, 1, 0), racer(11, 1, 1, 1, 0, 1)),
		Pools:    append(make([]api.Pool, 0, 9), byTable(1000, 100, 500, 300, 100), byQuota(333, 0, 2)),
		Protests: append(make([]int, 0, 9), 11, 12),
	}
	before := copied(r)
	for pool := range r.Pools {
		ask(r, question{pool, 12})
	}
	if !reflect.DeepEqual(r, before) || !slices.ContainsFunc(r.Racers[:9][5:], isNobody) || slices.Max(r.Protests[:9][2:]) != 0 {
		t.Errorf("the race is changed: %v", r)
	}
	for i, call := range []func() []int{
		func() []int { l, _ := prizes.Places(r, 0); return l }, func() []int { l, _ := prizes.Order(r, 0); return l[1] },
		func() []int { _, l, _ := prizes.First(r, 0); return l }, func() []int { l, _, _ := prizes.First(protested(r, 14), 0); return l },
	} {
		first := call()
		want := slices.Clone(first)
		first[0] = 77
		if again := call(); !slices.Equal(again, want) {
			t.Errorf("%d: results share memory: %v", i, again)
		}
	}
	expectOwnLists(t, r)
	if !reflect.DeepEqual(r, before) {
		t.Errorf("a result shares memory with the race: %v", r)
	}
}

func isNobody(x api.Racer) bool { return x.Bird == 0 && x.Day == 0 && x.Pools == nil }

// expectOwnLists changes results, which changes no other ones.
func expectOwnLists(t *testing.T, r api.Race) {
	t.Helper()
	list, _ := prizes.Prizes(r, 0)
	purses, _ := prizes.Purses(r)
	list[0].Won, purses[0].Paid = -1, -1
	if again, _ := prizes.Prizes(r, 0); again[0].Won == -1 {
		t.Errorf("Prizes shares memory")
	}
	if again, _ := prizes.Purses(r); again[0].Paid == -1 {
		t.Errorf("Purses shares memory")
	}
	order, _ := prizes.Order(r, 0)
	_ = append(order[0], 77)
	if order[1][0] != 12 {
		t.Errorf("lists of Order share memory: %v", order)
	}
}
