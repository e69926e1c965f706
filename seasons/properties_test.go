package seasons_test

import (
	"cmp"
	"math/rand"
	"reflect"
	"slices"
	"testing"

	"squeaker/api"
	"squeaker/baskets"
	"squeaker/seasons"
	"squeaker/velocity"
)

const rounds = 1200

// eachSeason gives a test many seasons, always the same ones.
func eachSeason(t *testing.T, test func(r *rand.Rand, s api.Season)) {
	t.Helper()
	r := rand.New(rand.NewSource(9))
	for range rounds {
		s := randomSeason(r)
		if e := seasons.Check(s); e != api.OK {
			t.Fatalf("Check has the error %d of %+v", e, s)
		}
		before := copied(s)
		test(r, s)
		if !reflect.DeepEqual(before, s) {
			t.Errorf("the season is changed")
		}
		if t.Failed() {
			t.Fatalf("the season: %+v", before)
		}
	}
}

// TestRandomSeasons checks the seasons themselves: in a good part of them protests matter, and scores are the same.
func TestRandomSeasons(t *testing.T) {
	seen := map[string]int{}
	note := func(what string, is bool) {
		if is {
			seen[what]++
		}
	}
	eachSeason(t, func(_ *rand.Rand, s api.Season) {
		if len(s.Owners) == 0 {
			return
		}
		all := endsOf(s)
		aces, champions := overEnds(all, func(e end) int { return e.ace }), overEnds(all, func(e end) int { return e.champion })
		matters := modelMatters(s, all)
		note("an open ace", len(setOf(aces)) > 1)
		note("an open champion", len(setOf(champions)) > 1)
		note("some protests matter, some don't", len(matters) > 0 && 1<<len(matters) < len(all))
		note("an ace by first places", slices.ContainsFunc(all, func(e end) bool { return isTied(e.birds, e.ace, true) }))
		note("an ace by its number", slices.ContainsFunc(all, func(e end) bool { return isTied(e.birds, e.ace, false) }))
		note("a champion by first places", slices.ContainsFunc(all, func(e end) bool { return isTied(e.members, e.champion, true) }))
		note("a champion by the number", slices.ContainsFunc(all, func(e end) bool { return isTied(e.members, e.champion, false) }))
		note("races that do not count", s.Best < len(s.Races))
		note("birds that do not count", s.Team < len(s.Owners)/len(all[0].members))
	})
	if len(seen) < 9 || slices.ContainsFunc(valuesOf(seen), func(n int) bool { return n < rounds/20 }) {
		t.Errorf("of %d seasons these have: %v", rounds, seen)
	}
}

func valuesOf(seen map[string]int) []int {
	var out []int
	for _, n := range seen {
		out = append(out, n)
	}
	return out
}

// isTied tells whether another one has the same score as the first one, with fewer first places or with as many.
func isTied(records map[int]record, first int, fewer bool) bool {
	for n, r := range records {
		if n != first && r.score == records[first].score && (r.firsts < records[first].firsts) == fewer {
			return true
		}
	}
	return false
}

func ownersOf(s api.Season) []int { return setOf(s.Owners) }

// answers are all that the functions say of a season.
type answers struct {
	birds, members, ranks    map[int]api.Span
	places                   map[[2]int]api.Span // by the race and the bird, none if there is ErrNone
	aces, champions, matters []int
}

// answersOf asks all functions; Aces and Champions have ErrNone if there are no birds.
func answersOf(t *testing.T, s api.Season) answers {
	t.Helper()
	a := answers{birds: map[int]api.Span{}, members: map[int]api.Span{}, ranks: map[int]api.Span{}, places: map[[2]int]api.Span{}}
	none := api.OK
	if len(s.Owners) == 0 {
		none = api.ErrNone
	}
	expect := func(name string, e, want api.Errno) {
		if e != want {
			t.Fatalf("%s has the error %d", name, e)
		}
	}
	var e api.Errno
	a.aces, e = seasons.Aces(s)
	expect("Aces", e, none)
	a.champions, e = seasons.Champions(s)
	expect("Champions", e, none)
	a.matters, e = seasons.Matters(s)
	expect("Matters", e, api.OK)
	for bird := range s.Owners {
		a.birds[bird], e = seasons.Bird(s, bird)
		expect("Bird", e, api.OK)
		for race := range s.Races {
			places, e := seasons.Places(s, race, bird)
			expect("Places", e, placesError(s, race, bird))
			if e == api.OK {
				a.places[[2]int{race, bird}] = places
			}
		}
	}
	for _, member := range ownersOf(s) {
		a.members[member], e = seasons.Member(s, member)
		expect("Member", e, api.OK)
		a.ranks[member], e = seasons.Rank(s, member)
		expect("Rank", e, api.OK)
	}
	return a
}

func isIn(n int, x api.Span) bool { return x.Low <= n && n <= x.High }

// contains tells whether all of some numbers are among others.
func contains(all, some []int) bool {
	return !slices.ContainsFunc(some, func(n int) bool { return !slices.Contains(all, n) })
}

// TestModel: P9.2 to P9.9, everything is what the definitions say, end by end.
func TestModel(t *testing.T) {
	eachSeason(t, func(_ *rand.Rand, s api.Season) {
		all := endsOf(s)
		expectMatters(t, 0, s, modelMatters(s, all)...)
		for bird := range s.Owners {
			expectBird(t, 0, s, bird, spanOf(overEnds(all, func(e end) int { return e.birds[bird].score })))
			for race := range s.Races {
				modelPlaces(t, s, all, race, bird)
			}
		}
		for _, member := range ownersOf(s) {
			expectMember(t, 0, s, member, spanOf(overEnds(all, func(e end) int { return e.members[member].score })))
			expectRank(t, 0, s, member, spanOf(overEnds(all, func(e end) int { return rankIn(member, e.members) })))
			modelFewest(t, s, all, member)
		}
		if len(s.Owners) > 0 {
			expectAces(t, 0, s, setOf(overEnds(all, func(e end) int { return e.ace }))...)
			expectChampions(t, 0, s, setOf(overEnds(all, func(e end) int { return e.champion }))...)
		}
	})
}

func modelPlaces(t *testing.T, s api.Season, all []end, race, bird int) {
	t.Helper()
	places := overEnds(all, func(e end) int { return placeIn(e.Season, race, bird) })
	places = slices.DeleteFunc(places, func(place int) bool { return place == 0 })
	if len(places) == 0 {
		expectNowhere(t, 0, s, race, bird)
	} else {
		expectPlaces(t, 0, s, race, bird, spanOf(places))
	}
}

func modelFewest(t *testing.T, s api.Season, all []end, member int) {
	t.Helper()
	fewest, e := len(s.Protests)+1, api.OK
	for _, x := range all {
		if x.champion == member {
			fewest = min(fewest, upheldIn(x.Season)-upheldIn(s))
		}
	}
	if fewest > len(s.Protests) {
		fewest, e = 0, api.ErrNone
	}
	expectFewest(t, 0, s, member, fewest, e)
}

// TestEveryEnd: P9.10.
func TestEveryEnd(t *testing.T) {
	eachSeason(t, func(_ *rand.Rand, s api.Season) {
		a := answersOf(t, s)
		for _, x := range endsOf(s) {
			if len(s.Owners) > 0 && (!slices.Contains(a.aces, x.ace) || !slices.Contains(a.champions, x.champion)) {
				t.Errorf("the ace is %d, the champion is %d by %v: %v", x.ace, x.champion, x.Protests, a)
			}
			for bird, r := range x.birds {
				if !isIn(r.score, a.birds[bird]) {
					t.Errorf("%d has the score %d by %v: %v", bird, r.score, x.Protests, a)
				}
				for race := range s.Races {
					if n := placeIn(x.Season, race, bird); n > 0 && !isIn(n, a.places[[2]int{race, bird}]) {
						t.Errorf("%d has the place %d in %d by %v: %v", bird, n, race, x.Protests, a)
					}
				}
			}
			for member, r := range x.members {
				if n := rankIn(member, x.members); !isIn(r.score, a.members[member]) || !isIn(n, a.ranks[member]) {
					t.Errorf("the member %d has the score %d and the rank %d by %v: %v", member, r.score, n, x.Protests, a)
				}
			}
		}
	})
}

// TestEndsAreReached: P9.11.
func TestEndsAreReached(t *testing.T) {
	narrower := 0
	eachSeason(t, func(r *rand.Rand, s api.Season) {
		before := answersOf(t, s)
		after := answersOf(t, someDecided(r, s))
		expectNotWider(t, before, after)
		if !reflect.DeepEqual(before, after) {
			narrower++
		}
		var only []int
		for _, x := range ends(s) {
			after := answersOf(t, x)
			expectNotWider(t, before, after)
			if len(after.champions) == 1 {
				only = append(only, after.champions...)
			}
		}
		if !slices.Equal(setOf(only), before.champions) {
			t.Errorf("Champions = %v, and by some decision only %v", before.champions, setOf(only))
		}
	})
	if narrower < rounds/4 {
		t.Errorf("only %d seasons are narrower", narrower)
	}
}

// someDecided returns a season after some of its protests were decided.
func someDecided(r *rand.Rand, s api.Season) api.Season {
	s = copied(s)
	for i, p := range s.Protests {
		if p.State == api.Pending && r.Intn(2) == 0 {
			s.Protests[i].State = []int{api.Upheld, api.Refused}[r.Intn(2)]
		}
	}
	return s
}

// expectNotWider checks that nothing is possible after some protests were decided that was not before.
func expectNotWider(t *testing.T, before, after answers) {
	t.Helper()
	if !contains(before.aces, after.aces) || !contains(before.champions, after.champions) ||
		!isNarrower(before.birds, after.birds) || !isNarrower(before.places, after.places) ||
		!isNarrower(before.members, after.members) || !isNarrower(before.ranks, after.ranks) {
		t.Errorf("before some protests were decided: %v, and after it: %v", before, after)
	}
}

// isNarrower tells whether no span is wider than it was.
func isNarrower[K comparable](before, after map[K]api.Span) bool {
	for k, x := range after {
		if was, is := before[k]; !is || !isIn(x.Low, was) || !isIn(x.High, was) {
			return false
		}
	}
	return true
}

// TestWhatMatters: P9.12.
func TestWhatMatters(t *testing.T) {
	one, others := 0, 0
	eachSeason(t, func(r *rand.Rand, s api.Season) {
		a := answersOf(t, s)
		if len(s.Owners) > 0 && len(a.matters) == 0 {
			one++
			if len(a.champions) != 1 {
				t.Errorf("Matters is empty, and Champions = %v", a.champions)
			}
		}
		for i, p := range s.Protests {
			if p.State != api.Pending || slices.Contains(a.matters, i) {
				continue
			}
			if len(a.champions) > 1 {
				others++
			}
			for _, state := range []int{api.Upheld, api.Refused} {
				if after := answersOf(t, settled(s, i, state)).champions; !slices.Equal(after, a.champions) {
					t.Errorf("Champions is %v if %d has the state %d: %v", after, i, state, a)
				}
			}
		}
	})
	if one < rounds/10 || others < rounds/20 {
		t.Errorf("%d seasons have a sure champion, and in others %d protests do not matter", one, others)
	}
}

// TestBetterBird: P9.13.
func TestBetterBird(t *testing.T) {
	better := 0
	eachSeason(t, func(_ *rand.Rand, s api.Season) {
		before := answersOf(t, s)
		for race, contest := range s.Races {
			for i, bird := range contest.Order {
				if i == 0 || hasProtest(s, race, bird) || hasProtest(s, race, contest.Order[i-1]) {
					continue
				}
				after := copied(s)
				order := after.Races[race].Order
				order[i-1], order[i] = order[i], order[i-1]
				was := before.birds[bird]
				is, e := seasons.Bird(after, bird)
				if e != api.OK || is.Low < was.Low || is.High < was.High {
					t.Errorf("Bird of %d = %v, and %v, %d in the order %v", bird, was, is, e, order)
				}
				if is != was {
					better++
				}
			}
		}
	})
	if better < rounds/2 {
		t.Errorf("only %d birds have better scores", better)
	}
}

func hasProtest(s api.Season, race, bird int) bool {
	return slices.ContainsFunc(s.Protests, func(p api.Protest) bool { return p.Race == race && p.Bird == bird })
}

// TestNoPoints: P9.14.
func TestNoPoints(t *testing.T) {
	more := 0
	eachSeason(t, func(r *rand.Rand, s api.Season) {
		greater := copied(s)
		greater.Points[0] += 1 + r.Intn(9)
		before, after := answersOf(t, s), answersOf(t, greater)
		for member, was := range before.members {
			is := after.members[member]
			if is.Low < was.Low || is.High < was.High {
				t.Errorf("Member of %d = %v, and %v with the points %v", member, was, is, greater.Points)
			}
			if is != was {
				more++
			}
		}
		all := ends(s)
		expectDecided(t, all[r.Intn(len(all))])
	})
	if more < rounds/2 {
		t.Errorf("only %d members have greater scores", more)
	}
}

// expectDecided checks that everything is one, of a season of which no protest is pending.
func expectDecided(t *testing.T, s api.Season) {
	t.Helper()
	a := answersOf(t, s)
	want := min(1, len(s.Owners))
	if !areNumbers(a.birds) || !areNumbers(a.places) || !areNumbers(a.members) || !areNumbers(a.ranks) ||
		len(a.aces) != want || len(a.champions) != want || len(a.matters) > 0 {
		t.Errorf("no protest is pending in %v: %v", s.Protests, a)
	}
}

// areNumbers tells whether all spans are one number.
func areNumbers[K comparable](spans map[K]api.Span) bool {
	for _, x := range spans {
		if x.Low != x.High {
			return false
		}
	}
	return true
}

// randomDerby returns a derby of few lofts in a row, whose clocks are exact, so that many places are sure.
func randomDerby(r *rand.Rand) api.Derby {
	d := api.Derby{
		Map:    api.Map{North: 1, Columns: 10, East: []int{1000}, Lofts: 4},
		Start:  span(0, r.Intn(2)),
		Timers: []api.Timer{{Clock: api.Clock{Hours: 1}}},
	}
	for loft := range d.Map.Lofts {
		x := 3 * loft
		d.Map.Surveys = append(d.Map.Surveys, api.Survey{Loft: loft, Kind: api.Box, X: span(x, x)})
	}
	for bird := range 1 + r.Intn(5) {
		loft := 1 + r.Intn(3)
		x := api.Clocking{Shown: 60*loft + 30*r.Intn(9), Late: r.Intn(9) * r.Intn(2)}
		d.Homings = append(d.Homings, api.Homing{Bird: bird, Loft: loft, Clocking: x})
	}
	return d
}

// placesOfDerby returns the places of a derby that are sure, 0 for others.
func placesOfDerby(t *testing.T, d api.Derby) []int {
	t.Helper()
	places, e := velocity.List(d)
	if e != api.OK {
		t.Fatalf("List has the error %d: %+v", e, d)
	}
	return places
}

// withDerby returns a season in which a derby is the last race, all places of which are sure.
func withDerby(s api.Season, places []int) api.Season {
	s = copied(s)
	order := upTo(len(places))
	slices.SortStableFunc(order, func(a, b int) int { return cmp.Compare(places[a], places[b]) })
	s.Races = append(s.Races, api.Contest{Order: order})
	return s
}

// TestSeasonThatStays: P0.5.
func TestSeasonThatStays(t *testing.T) {
	r := rand.New(rand.NewSource(5))
	judged, narrower := 0, 0
	for range 4 * rounds {
		d := randomDerby(r)
		before := placesOfDerby(t, d)
		if slices.Contains(before, 0) {
			continue
		}
		homing := r.Intn(len(d.Homings))
		x := d.Homings[homing].Clocking
		from := x.Shown - x.Late + r.Intn(x.Late+1)
		after, e := velocity.Judge(d, homing, span(from, from+r.Intn(5)))
		if e != api.OK {
			t.Fatalf("Judge has the error %d: %+v", e, d)
		}
		judged++
		if flightOf(t, d, homing) != flightOf(t, after, homing) {
			narrower++
		}
		s := seasonFor(r, len(d.Homings))
		first, second := withDerby(s, before), withDerby(s, placesOfDerby(t, after))
		if got, want := answersOf(t, second), answersOf(t, first); !reflect.DeepEqual(got, want) {
			t.Fatalf("with %+v, and after it was judged: %v, and %v", d, want, got)
		}
	}
	if judged < rounds || narrower < rounds/10 {
		t.Errorf("%d homings are judged, and %d flights are other ones then", judged, narrower)
	}
}

func flightOf(t *testing.T, d api.Derby, homing int) api.Span {
	t.Helper()
	flight, e := velocity.Flight(d, homing)
	if e != api.OK {
		t.Fatalf("Flight has the error %d: %+v", e, d)
	}
	return flight
}

// seasonFor returns a season of some birds, with fewer races than there can be.
func seasonFor(r *rand.Rand, birds int) api.Season {
	s := api.Season{Points: randomPoints(r), Best: 1 + r.Intn(3), Team: 1 + r.Intn(3)}
	for range birds {
		s.Owners = append(s.Owners, r.Intn(3))
	}
	for range r.Intn(3) {
		s.Races = append(s.Races, api.Contest{Order: r.Perm(birds)})
	}
	s.Protests = randomProtests(r, s, 3)
	return s
}

// randomConvoy returns a convoy of some birds, some baskets of which were opened.
func randomConvoy(r *rand.Rand, birds int) api.Convoy {
	c := api.Convoy{Baskets: 2 + r.Intn(4), Birds: birds, End: 100}
	act := func(at, kind, basket int) *api.Act {
		c.Acts = append(c.Acts, api.Act{Id: len(c.Acts), At: at, Kind: kind, Basket: basket})
		return &c.Acts[len(c.Acts)-1]
	}
	for bird := range birds {
		a := act(r.Intn(9), api.MarkIn, r.Intn(c.Baskets))
		a.Bird, a.First, a.Second = bird, 1, 2
	}
	for basket := range c.Baskets {
		seal := 1 + r.Intn(2*c.Baskets) // the seals of some baskets are the same
		act(10, api.SealUp, basket).Seal = seal
		act(90, api.Unseal, basket).Seal = []int{seal, seal, 0}[r.Intn(3)]
	}
	return c
}

// TestSuspectedBasket: P0.6, with a season of one race, or of races in which the same bird came first.
func TestSuspectedBasket(t *testing.T) {
	r := rand.New(rand.NewSource(6))
	seen := map[bool]int{}
	for range 4 * rounds {
		birds := 1 + r.Intn(api.MaxRaced)
		sure, may, e := baskets.Struck(randomConvoy(r, birds))
		if e != api.OK {
			t.Fatalf("Struck has the error %d", e)
		}
		first := r.Intn(birds)
		s := suspected(r, birds, first, may)
		if slices.Contains(may, first) || len(s.Protests) > api.MaxOpen {
			continue
		}
		seen[len(sure) < len(may)]++
		for _, x := range append(ends(s), s) {
			expectAces(t, 0, x, first)
		}
		if t.Failed() {
			t.Fatalf("%d cannot have been struck, and %v may have been, in %+v", first, may, s)
		}
	}
	if min(seen[true], seen[false]) < rounds/10 {
		t.Errorf("these seasons have birds that may have been struck, but not surely: %v", seen)
	}
}

// suspected returns a season in which one bird came first in all races, with protests against some birds in each of them.
func suspected(r *rand.Rand, birds, first int, may []int) api.Season {
	s := seasonFor(r, birds)
	s.Races, s.Protests = nil, nil
	for race := range 1 + r.Intn(3) {
		order := slices.DeleteFunc(r.Perm(birds), func(bird int) bool { return bird == first })
		s.Races = append(s.Races, api.Contest{Order: slices.Insert(order, 0, first)})
		for _, bird := range may {
			s.Protests = append(s.Protests, protest(race, bird, api.Pending))
		}
	}
	return s
}
