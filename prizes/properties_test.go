package prizes_test

import (
	"maps"
	"math/rand"
	"reflect"
	"slices"
	"testing"

	"squeaker/api"
	"squeaker/clocks"
	"squeaker/prizes"
	"squeaker/velocity"
)

const rounds = 1500

// eachRace gives a test many races, always the same ones.
func eachRace(t *testing.T, test func(r *rand.Rand, race api.Race)) {
	t.Helper()
	r := rand.New(rand.NewSource(8))
	for range rounds {
		race := randomRace(r)
		if e := prizes.Check(race); e != api.OK {
			t.Fatalf("Check has the error %d of %+v", e, race)
		}
		before := copied(race)
		test(r, race)
		if !reflect.DeepEqual(before, race) {
			t.Errorf("the race is changed")
		}
		if t.Failed() {
			t.Fatalf("the race: %+v", before)
		}
	}
}

// TestRandomRaces checks the races themselves: in a good part of them birds tie, something is left, and protests matter.
func TestRandomRaces(t *testing.T) {
	seen := map[string]int{}
	eachRace(t, func(_ *rand.Rand, r api.Race) {
		for pool := range r.Pools {
			count(seen, r, pool)
		}
	})
	for _, what := range []string{"a tie", "a cent more", "a rest", "a wide span", "a sure first one", "a maybe first one", "a better second place"} {
		if seen[what] < rounds/10 {
			t.Errorf("of %d races these have: %v", rounds, seen)
		}
	}
}

// count counts what happens in a pool, as the definitions say.
func count(seen map[string]int, r api.Race, pool int) {
	m := modelOf(r, pool)
	note := func(what string, is bool) {
		if is {
			seen[what]++
		}
	}
	for _, tied := range m.order {
		note("a tie", len(tied) > 1)
		note("a cent more", m.won[tied[0]] > m.won[tied[len(tied)-1]])
	}
	note("a rest", m.rest > 0)
	note("a better second place", len(m.places) > 1 && m.places[1] > m.places[0])
	if len(r.Protests) > 0 {
		sure, maybe := modelFirst(r, pool)
		note("a sure first one", len(sure) > 0)
		note("a maybe first one", len(maybe) > 0)
		for _, bird := range nominated(r, pool) {
			can := modelCan(r, pool, bird)
			note("a wide span", can.Low < can.High)
		}
	}
}

// wonIn returns what each nominated bird wins in a pool.
func wonIn(t *testing.T, r api.Race, pool int) map[int]int {
	t.Helper()
	list, e := prizes.Prizes(r, pool)
	if e != api.OK {
		t.Fatalf("Prizes has the error %d", e)
	}
	won := map[int]int{}
	for _, p := range list {
		won[p.Bird] = p.Won
	}
	return won
}

func potOf(t *testing.T, r api.Race, pool int) api.Pot {
	t.Helper()
	pot, e := prizes.Pot(r, pool)
	if e != api.OK {
		t.Fatalf("Pot has the error %d", e)
	}
	return pot
}

func placesOf(t *testing.T, r api.Race, pool int) []int {
	t.Helper()
	l, e := prizes.Places(r, pool)
	if e != api.OK {
		t.Fatalf("Places has the error %d", e)
	}
	return l
}

func orderOf(t *testing.T, r api.Race, pool int) [][]int {
	t.Helper()
	l, e := prizes.Order(r, pool)
	if e != api.OK {
		t.Fatalf("Order has the error %d", e)
	}
	return l
}

func canOf(t *testing.T, r api.Race, pool, bird int) api.Span {
	t.Helper()
	can, e := prizes.Can(r, pool, bird)
	if e != api.OK {
		t.Fatalf("Can has the error %d", e)
	}
	return can
}

func firstOf(t *testing.T, r api.Race, pool int) (sure, maybe []int) {
	t.Helper()
	sure, maybe, e := prizes.First(r, pool)
	if e != api.OK {
		t.Fatalf("First has the error %d", e)
	}
	return sure, maybe
}

// firstIn returns the birds that are the first ones of Order.
func firstIn(t *testing.T, r api.Race, pool int) []int {
	t.Helper()
	if order := orderOf(t, r, pool); len(order) > 0 {
		return order[0]
	}
	return nil
}

// contains tells whether all of some birds are among others.
func contains(all, some []int) bool {
	return !slices.ContainsFunc(some, func(n int) bool { return !slices.Contains(all, n) })
}

// TestModel: P8.2 to P8.8, everything is what the definitions say, cent by cent.
func TestModel(t *testing.T) {
	eachRace(t, func(_ *rand.Rand, r api.Race) {
		for pool := range r.Pools {
			m := modelOf(r, pool)
			expectPot(t, pool, r, pool, api.Pot{Total: m.total, Cut: m.cut, Left: m.left, Rest: m.rest})
			expectPlaces(t, pool, r, pool, m.places...)
			expectOrder(t, pool, r, pool, m.order...)
			var list [][3]int
			for _, bird := range nominated(r, pool) {
				list = append(list, [3]int{bird, m.won[bird], m.back[bird]})
				expectCan(t, pool, r, pool, bird, modelCan(r, pool, bird))
			}
			expectPrizes(t, pool, r, pool, list)
			sure, maybe := modelFirst(r, pool)
			expectFirst(t, pool, r, pool, sure, maybe)
		}
		expectPurses(t, 0, r, modelPurses(r))
	})
}

func modelPurses(r api.Race) [][3]int {
	var out [][3]int
	for owner := range api.MaxOwners + 1 {
		birds := rings(r, func(x api.Racer) bool { return x.Owner == owner })
		if len(birds) == 0 {
			continue
		}
		purse := [3]int{owner, 0, 0}
		for pool, p := range r.Pools {
			m := modelOf(r, pool)
			for _, bird := range birds {
				if slices.Contains(nominated(r, pool), bird) {
					purse[1] += p.Stake
					purse[2] += m.won[bird] + m.back[bird]
				}
			}
		}
		out = append(out, purse)
	}
	return out
}

// TestLastCent: P8.9.
func TestLastCent(t *testing.T) {
	eachRace(t, func(_ *rand.Rand, r api.Race) {
		totals, cuts := 0, 0
		for pool := range r.Pools {
			pot := potOf(t, r, pool)
			totals, cuts = totals+pot.Total, cuts+pot.Cut
			list, _ := prizes.Prizes(r, pool)
			won, back := 0, 0
			for _, p := range list {
				won, back = won+p.Won, back+p.Back
				if p.Won < 0 || p.Back < 0 {
					t.Errorf("a bird pays for its prize: %v", p)
				}
			}
			if pot.Total != pot.Cut+won+back || pot.Left != won+pot.Rest || pot.Left != pot.Total-pot.Cut || back != pot.Rest {
				t.Errorf("Pot of %d = %v, Prizes = %v", pool, pot, list)
			}
		}
		purses, e := prizes.Purses(r)
		staked, paid := 0, 0
		for _, p := range purses {
			staked, paid = staked+p.Staked, paid+p.Paid
		}
		if e != api.OK || staked != totals || paid+cuts != totals {
			t.Errorf("Purses = %v, %d, and the pots have %d, and the club keeps %d", purses, e, totals, cuts)
		}
	})
}

// TestTies: P8.10.
func TestTies(t *testing.T) {
	ahead := 0
	eachRace(t, func(_ *rand.Rand, r api.Race) {
		for pool := range r.Pools {
			won := wonIn(t, r, pool)
			falling := slices.IsSortedFunc(placesOf(t, r, pool), func(a, b int) int { return b - a })
			before := 1 << 40
			for _, tied := range orderOf(t, r, pool) {
				least, greatest := won[tied[len(tied)-1]], won[tied[0]]
				for i, bird := range tied {
					if i > 0 && (bird <= tied[i-1] || won[bird] > won[tied[i-1]]) || won[bird] < greatest-1 {
						t.Errorf("of the pool %d %v win %v", pool, tied, won)
					}
				}
				if falling && greatest > before+1 {
					t.Errorf("of the pool %d %v win more than who is ahead of them: %v", pool, tied, won)
				}
				if falling && greatest > 0 && before < 1<<40 {
					ahead++
				}
				before = least
			}
		}
	})
	if ahead < rounds/2 {
		t.Errorf("there are only %d birds behind others", ahead)
	}
}

// answersOf returns all that the functions say of a race.
func answersOf(r api.Race) []map[string]outcome {
	var out []map[string]outcome
	for pool := range r.Pools {
		out = append(out, ask(r, question{pool, -1}))
		for _, bird := range nominated(r, pool) {
			out = append(out, ask(r, question{pool, bird}))
		}
	}
	return append(out, ask(r, question{}))
}

// TestAnyOrder: P8.11.
func TestAnyOrder(t *testing.T) {
	eachRace(t, func(r *rand.Rand, race api.Race) {
		other := copied(race)
		r.Shuffle(len(other.Racers), func(i, j int) { other.Racers[i], other.Racers[j] = other.Racers[j], other.Racers[i] })
		if first, second := answersOf(race), answersOf(other); !reflect.DeepEqual(first, second) {
			t.Errorf("in another order: %v, and %v", first, second)
		}
	})
}

// TestOneMore: P8.12.
func TestOneMore(t *testing.T) {
	more := 0
	eachRace(t, func(r *rand.Rand, race api.Race) {
		last := 0
		for _, x := range race.Racers {
			if x.Day == 2 {
				last = max(last, x.Rank)
			}
		}
		away := slices.IndexFunc(race.Racers, func(x api.Racer) bool { return x.Day == 0 })
		if last == api.MaxRacers || away < 0 {
			return
		}
		home := copied(race)
		home.Racers[away].Rank, home.Racers[away].Day = last+1+r.Intn(api.MaxRacers-last), 2
		for pool := range race.Pools {
			before, after := wonIn(t, race, pool), wonIn(t, home, pool)
			for bird, won := range before {
				if after[bird] < won {
					t.Errorf("of the pool %d %d won %d, and %d if %v comes home", pool, bird, won, after[bird], home.Racers[away])
				}
			}
			if late := race.Racers[away].Bird; after[late] > before[late] {
				more++
			}
		}
	})
	if more < rounds/30 {
		t.Errorf("only %d birds won something late", more)
	}
}

// TestEveryEnd: P8.13.
func TestEveryEnd(t *testing.T) {
	eachRace(t, func(_ *rand.Rand, r api.Race) {
		for pool := range r.Pools {
			reached, cases := map[int][]int{}, map[int]int{}
			for _, end := range ends(r) {
				for bird, won := range wonIn(t, end, pool) {
					reached[bird] = append(reached[bird], won)
				}
				for _, bird := range firstIn(t, end, pool) {
					cases[bird]++
				}
			}
			for bird, won := range reached {
				if can := canOf(t, r, pool, bird); can.Low != slices.Min(won) || can.High != slices.Max(won) {
					t.Errorf("Can of %d and %d = %v, and it won %v", pool, bird, can, won)
				}
			}
			sure, maybe := firstOf(t, r, pool)
			if some := slices.Sorted(maps.Keys(cases)); !slices.Equal(some, slices.Sorted(slices.Values(slices.Concat(sure, maybe)))) {
				t.Errorf("First of %d = %v, %v, and in some case %v are the first ones", pool, sure, maybe, some)
			}
			for bird, n := range cases {
				if slices.Contains(sure, bird) != (n == len(ends(r))) {
					t.Errorf("First of %d = %v, %v, and in %d cases it is %d", pool, sure, maybe, n, bird)
				}
			}
		}
	})
}

// TestEachPoolByItself: P8.14.
func TestEachPoolByItself(t *testing.T) {
	eachRace(t, func(r *rand.Rand, race api.Race) {
		if len(race.Pools) == 0 {
			return
		}
		pool := r.Intn(len(race.Pools))
		want := wonIn(t, race, pool)
		// the other pools are other ones, for which other birds are nominated
		others := copied(race)
		for i := range others.Pools {
			if i != pool {
				others.Pools[i] = randomPool(r)
			}
		}
		for i, x := range others.Racers {
			others.Racers[i].Pools = randomPools(r, others, pool, slices.Contains(x.Pools, pool))
		}
		expectWon(t, others, pool, want)
		// the birds that are not nominated come home otherwise, or are not in the race
		for i, x := range others.Racers {
			if !slices.Contains(x.Pools, pool) {
				others.Racers[i].Rank, others.Racers[i].Day = 1+r.Intn(api.MaxRacers), 1+r.Intn(2)
			}
		}
		expectWon(t, others, pool, want)
		alone := copied(race)
		alone.Pools, alone.Protests = race.Pools[pool:pool+1], nil
		alone.Racers = slices.DeleteFunc(alone.Racers, func(x api.Racer) bool { return !slices.Contains(x.Pools, pool) })
		for i := range alone.Racers {
			alone.Racers[i].Pools = []int{0}
		}
		expectWon(t, alone, 0, want)
	})
}

// randomPools returns pools of a race, one of which is among them or not.
func randomPools(r *rand.Rand, race api.Race, pool int, with bool) []int {
	var out []int
	for i := range race.Pools {
		if i == pool && with || i != pool && r.Intn(2) == 0 {
			out = append(out, i)
		}
	}
	return out
}

func expectWon(t *testing.T, r api.Race, pool int, want map[int]int) {
	t.Helper()
	if won := wonIn(t, r, pool); !maps.Equal(won, want) {
		t.Errorf("in the pool %d they win %v, not %v: %+v", pool, won, want, r)
	}
}

// TestDecided: P8.15.
func TestDecided(t *testing.T) {
	narrower := 0
	eachRace(t, func(r *rand.Rand, race api.Race) {
		if len(race.Protests) == 0 {
			return
		}
		after := settled(race, race.Protests[r.Intn(len(race.Protests))], r.Intn(2) == 0)
		for pool := range race.Pools {
			for _, bird := range nominated(race, pool) {
				can, still := canOf(t, race, pool, bird), canOf(t, after, pool, bird)
				if still.Low < can.Low || still.High > can.High {
					t.Errorf("Can of %d and %d = %v, and %v after %v", pool, bird, can, still, after)
				}
				if still != can {
					narrower++
				}
			}
			sure, maybe := firstOf(t, race, pool)
			stillSure, stillMaybe := firstOf(t, after, pool)
			if !contains(stillSure, sure) || !contains(slices.Concat(sure, maybe), slices.Concat(stillSure, stillMaybe)) {
				t.Errorf("First of %d = %v, %v, and %v, %v after %v", pool, sure, maybe, stillSure, stillMaybe, after)
			}
		}
	})
	if narrower < rounds/2 {
		t.Errorf("only %d spans are narrower", narrower)
	}
}

// A clocked bird is a clock, and what was clocked.
type clocked struct {
	clock api.Clock
	x     api.Clocking
}

// randomClocked returns a bird with a clock that may gain or lose something.
func randomClocked(r *rand.Rand) clocked {
	c := api.Clock{Hours: 1 + r.Intn(3), Shown: r.Intn(1000), Step: r.Intn(3)}
	c.Drift = span(-r.Intn(4), r.Intn(4))
	if r.Intn(3) == 0 {
		at := r.Intn(c.Hours * 3600)
		c.Strikes = []api.Strike{{At: at, Shown: span(c.Shown+at-min(c.Shown, 4), c.Shown+at+4)}}
	}
	return clocked{c, api.Clocking{Shown: c.Shown + 10 + r.Intn(c.Hours*3600-100), Late: r.Intn(30)}}
}

// ranksOf returns the ranks of clocked birds: one more than the number of those that surely are ahead. It tells whether the
// clocks tell of each two birds which one that is.
func ranksOf(birds []clocked) (ranks []int, told bool) {
	for i, a := range birds {
		rank := 1
		for j, b := range birds {
			n, e := clocks.Ahead(a.clock, a.x, b.clock, b.x)
			if i != j && (e != api.OK || n == api.OpenAhead) {
				return nil, false
			}
			if i != j && n == api.SurelyBehind {
				rank++
			}
		}
		ranks = append(ranks, rank)
	}
	return ranks, true
}

// TestClockedWinner: P0.13.
func TestClockedWinner(t *testing.T) {
	r := rand.New(rand.NewSource(13))
	races := 0
	for range rounds / 2 {
		var birds []clocked
		for range 1 + r.Intn(6) {
			birds = append(birds, randomClocked(r))
		}
		ranks, told := ranksOf(birds)
		if !told {
			continue
		}
		races++
		race := api.Race{Pools: []api.Pool{toFirst(1+r.Intn(1000), r.Intn(1000))}}
		first := -1
		for i, ring := range r.Perm(api.MaxRing + 1)[:len(birds)] {
			race.Racers = append(race.Racers, racer(ring, r.Intn(3), ranks[i], 1, 0))
			if isAheadOfAll(t, birds, i) {
				first = ring
			}
		}
		pot := potOf(t, race, 0)
		if won := wonIn(t, race, 0); first < 0 || won[first] != pot.Left || pot.Rest != 0 {
			t.Fatalf("the clocks tell that %d is first, and %v win of %v: %+v", first, won, pot, birds)
		}
		expectFirst(t, races, race, 0, []int{first}, nil)
	}
	if races < rounds/10 {
		t.Errorf("the clocks tell who is ahead in %d races only", races)
	}
}

func isAheadOfAll(t *testing.T, birds []clocked, i int) bool {
	t.Helper()
	for j, other := range birds {
		n, e := clocks.Ahead(birds[i].clock, birds[i].x, other.clock, other.x)
		if e != api.OK {
			t.Fatalf("Ahead has the error %d", e)
		}
		if i != j && n != api.SurelyAhead {
			return false
		}
	}
	return true
}

// randomDerby returns a derby of few lofts in a row, whose clocks are exact, so that most places are sure.
func randomDerby(r *rand.Rand) api.Derby {
	d := api.Derby{
		Map:    api.Map{North: 1, Columns: 10, East: []int{1000}, Lofts: 4},
		Start:  span(0, r.Intn(2)),
		Timers: []api.Timer{{Clock: api.Clock{Hours: 1}}},
	}
	for loft := range d.Map.Lofts {
		x := 3 * loft
		d.Map.Surveys = append(d.Map.Surveys, api.Survey{Loft: loft, Kind: api.Box, X: span(x, x)})
	}
	for i, bird := range r.Perm(api.MaxMember + 1)[:1+r.Intn(5)] {
		loft := 1 + r.Intn(3)
		d.Homings = append(d.Homings, api.Homing{Bird: bird, Loft: loft, Clocking: api.Clocking{Shown: 60*loft + 30*r.Intn(4)}})
		d.Homings[i].Clocking.Late = r.Intn(2)
	}
	return d
}

// TestWinner: P0.4, with the places of a derby as ranks.
func TestWinner(t *testing.T) {
	r := rand.New(rand.NewSource(4))
	races, ties := 0, 0
	for range 4 * rounds {
		d := randomDerby(r)
		places, e := velocity.List(d)
		if e != api.OK {
			t.Fatalf("List has the error %d: %+v", e, d)
		}
		if slices.Contains(places, 0) {
			continue
		}
		races++
		race := api.Race{Pools: []api.Pool{toFirst(10, 0)}}
		for i, h := range d.Homings {
			race.Racers = append(race.Racers, racer(h.Bird, 1, places[i], 1, 0))
		}
		winners := firstIn(t, race, 0)
		ties += len(winners) - 1
		if pot := potOf(t, race, 0); pot.Left != 10*len(d.Homings) || pot.Rest != 0 {
			t.Fatalf("the pool goes to nobody: %v of %+v", pot, d)
		}
		for bird, won := range wonIn(t, race, 0) {
			if slices.Contains(winners, bird) != (won > 0) {
				t.Fatalf("%d wins %d, and %v are the first ones", bird, won, winners)
			}
			if won > 0 && hasOneAhead(t, d, bird) {
				t.Fatalf("%d wins %d, and another one is ahead: %+v", bird, won, d)
			}
		}
	}
	if races < rounds/2 || ties == 0 {
		t.Errorf("in %d races all places are sure, and %d birds tie", races, ties)
	}
}

// hasOneAhead tells whether some bird of a derby is ahead of another one whatever the numbers are.
func hasOneAhead(t *testing.T, d api.Derby, bird int) bool {
	t.Helper()
	i := slices.IndexFunc(d.Homings, func(h api.Homing) bool { return h.Bird == bird })
	for j := range d.Homings {
		n, e := velocity.Compare(d, j, i)
		if e != api.OK {
			t.Fatalf("Compare has the error %d", e)
		}
		if n == api.FirstFaster {
			return true
		}
	}
	return false
}
