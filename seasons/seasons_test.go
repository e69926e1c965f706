package seasons_test

import (
	"math"
	"reflect"
	"slices"
	"strconv"
	"testing"

	"squeaker/api"
	"squeaker/seasons"
)

func span(low, high int) api.Span { return api.Span{Low: low, High: high} }

func protest(race, bird, state int) api.Protest {
	return api.Protest{Race: race, Bird: bird, State: state}
}

// races returns contests with some orders.
func races(orders ...[]int) []api.Contest {
	var out []api.Contest
	for _, order := range orders {
		out = append(out, api.Contest{Order: order})
	}
	return out
}

// example is the season S of the chapter.
func example() api.Season {
	return api.Season{
		Owners: []int{5, 5, 6, 7}, Races: races([]int{0, 2, 1}, []int{2, 3, 0}, []int{1, 2}), Points: []int{10, 6, 3}, Best: 2, Team: 1,
		Protests: []api.Protest{protest(0, 0, api.Pending), protest(1, 2, api.Pending), protest(2, 1, api.Refused)},
	}
}

// changed returns the example with something changed.
func changed(change func(s *api.Season)) api.Season {
	s := example()
	change(&s)
	return s
}

// upTo returns the numbers below one.
func upTo(n int) []int {
	var out []int
	for i := range n {
		out = append(out, i)
	}
	return out
}

// of is a season of birds whose owners are 10, 11, and so on, of which all races count, with 10, 6 and 3 points.
func of(birds int, orders ...[]int) api.Season {
	s := api.Season{Races: races(orders...), Points: []int{10, 6, 3}, Best: api.MaxRaces, Team: api.MaxRaces}
	for bird := range birds {
		s.Owners = append(s.Owners, 10+bird)
	}
	return s
}

// owned returns a season of birds with some owners.
func owned(s api.Season, owners ...int) api.Season {
	s.Owners = owners
	return s
}

// scoring returns a season with some points.
func scoring(s api.Season, points ...int) api.Season {
	s.Points = points
	return s
}

// counting returns a season of which so many races, and so many birds of a member in each one, count.
func counting(s api.Season, best, team int) api.Season {
	s.Best, s.Team = best, team
	return s
}

// protested returns a season with protests.
func protested(s api.Season, protests ...api.Protest) api.Season {
	s.Protests = protests
	return s
}

// largest is as large as a season can be.
func largest() api.Season {
	s := api.Season{Points: slices.Repeat([]int{api.MaxScore}, api.MaxPoints), Best: api.MaxRaces, Team: api.MaxRaces}
	for i := range api.MaxRaced {
		s.Owners = append(s.Owners, api.MaxMember-i/9)
	}
	for race := range api.MaxRaces {
		s.Races = append(s.Races, api.Contest{Order: upTo(api.MaxRaced)})
		s.Protests = append(s.Protests, protest(race, race, api.Pending))
	}
	return s
}

// tooFarFrom returns numbers that are not within limits.
func tooFarFrom(low, high int) []int { return []int{low - 1, high + 1, math.MinInt, math.MaxInt} }

// A field is a number of a season, the limits of it, and how it is set.
type field struct {
	name      string
	low, high int
	set       func(s *api.Season, n int)
}

// fields returns all numbers of a season that have limits.
func fields() []field {
	out := []field{
		{"Best", 1, api.MaxRaces, func(s *api.Season, n int) { s.Best = n }},
		{"Team", 1, api.MaxRaces, func(s *api.Season, n int) { s.Team = n }},
		{"the first points", 6, api.MaxScore, func(s *api.Season, n int) { s.Points[0] = n }},
		{"the second points", 3, 10, func(s *api.Season, n int) { s.Points[1] = n }},
		{"the last points", 0, 6, func(s *api.Season, n int) { s.Points[2] = n }},
		{"the only points", 0, api.MaxScore, func(s *api.Season, n int) { s.Points = []int{n} }},
		{"the first one of three", 2, 3, func(s *api.Season, n int) { s.Races[1].Order, s.Protests = []int{n, 0, 1}, nil }},
		{"the last one of three", 0, 1, func(s *api.Season, n int) { s.Races[1].Order, s.Protests = []int{3, 2, n}, nil }},
		{"the only one", 0, 3, func(s *api.Season, n int) { s.Races[2].Order, s.Protests = []int{n}, nil }},
	}
	for i := range example().Owners {
		out = append(out, field{"Owner of " + strconv.Itoa(i), 0, api.MaxMember, func(s *api.Season, n int) { s.Owners[i] = n }})
	}
	for i := range example().Protests {
		of := " of the protest " + strconv.Itoa(i)
		out = append(out,
			field{"Race" + of, 0, 2, func(s *api.Season, n int) {
				s.Protests[i].Race = n
				s.Protests = s.Protests[i : i+1]
				s.Races = sameRaces()
			}},
			field{"Bird" + of, 0, 2, func(s *api.Season, n int) {
				s.Protests[i].Bird = n
				s.Protests = s.Protests[i : i+1]
				s.Races = sameRaces()
			}},
			field{"State" + of, 0, 2, func(s *api.Season, n int) { s.Protests[i].State = n }})
	}
	return out
}

// sameRaces returns three races of the birds 0 to 2.
func sameRaces() []api.Contest { return races([]int{0, 1, 2}, []int{1, 2, 0}, []int{2, 0, 1}) }

// invalid returns seasons that are not valid, by what is broken.
func invalid() map[string]api.Season {
	out := map[string]api.Season{
		"nothing":                       {},
		"a bird too many":               changed(func(s *api.Season) { s.Owners = make([]int, api.MaxRaced+1) }),
		"a race too many":               changed(func(s *api.Season) { s.Races = append(s.Races, make([]api.Contest, api.MaxRaces-2)...) }),
		"no points":                     changed(func(s *api.Season) { s.Points = nil }),
		"too many points":               changed(func(s *api.Season) { s.Points = make([]int, api.MaxPoints+1) }),
		"points that rise":              changed(func(s *api.Season) { s.Points = []int{3, 6, 10} }),
		"points that rise at the end":   changed(func(s *api.Season) { s.Points = []int{10, 6, 6, 7} }),
		"points that fall, and rise":    changed(func(s *api.Season) { s.Points = []int{10, 3, 6} }),
		"a protest too many":            protested(of(9, upTo(9)), allProtested(0, 9, api.Refused)...),
		"no birds":                      changed(func(s *api.Season) { s.Owners = nil }),
		"a bird too few":                changed(func(s *api.Season) { s.Owners = s.Owners[:3] }),
		"a race too few":                changed(func(s *api.Season) { s.Races = s.Races[:2] }),
		"a bird twice in a race":        of(3, []int{0, 1, 0}),
		"a bird twice, one after":       of(3, []int{0, 1, 1}),
		"a bird twice in the last race": of(3, []int{0, 1, 2}, nil, []int{2, 2}),
		"a race with 13 birds":          of(12, append(upTo(12), 0)),
		"a protest twice":               changed(func(s *api.Season) { s.Protests = append(s.Protests, s.Protests[0]) }),
		"a protest in two states":       changed(func(s *api.Season) { s.Protests = append(s.Protests, protest(0, 0, api.Refused)) }),
		"two decided protests":          protested(of(2, upTo(2)), protest(0, 1, api.Upheld), protest(0, 0, api.Pending), protest(0, 1, api.Refused)),
		"a protest against one away":    changed(func(s *api.Season) { s.Protests[1].Bird = 1 }),
		"a refused one against one so":  changed(func(s *api.Season) { s.Protests[2].Bird = 3 }),
		"a protest in an empty race":    protested(of(1, nil), protest(0, 0, api.Pending)),
		"a protest without races":       protested(of(1), protest(0, 0, api.Pending)),
		"a protest without birds":       protested(of(0, nil), protest(0, 0, api.Upheld)),
		"a race without birds":          of(0, []int{0}),
	}
	for _, f := range fields() {
		for _, n := range tooFarFrom(f.low, f.high) {
			out[f.name+" "+strconv.Itoa(n)] = changed(func(s *api.Season) { f.set(s, n) })
		}
	}
	return out
}

// allProtested returns protests against the birds below one in a race.
func allProtested(race, birds, state int) []api.Protest {
	var out []api.Protest
	for bird := range birds {
		out = append(out, protest(race, bird, state))
	}
	return out
}

// valid returns seasons that are valid, though they look like some that are not.
func valid() map[string]api.Season {
	out := map[string]api.Season{
		"the least":                    counting(scoring(api.Season{}, 0), 1, 1),
		"empty, not nil":               {Owners: []int{}, Races: []api.Contest{}, Points: []int{0}, Best: 1, Team: 1, Protests: []api.Protest{}},
		"the example":                  example(),
		"the largest":                  largest(),
		"races without birds":          of(0, nil, []int{}),
		"birds without races":          of(3),
		"birds in no race":             of(3, nil, nil, []int{1}),
		"as many points as there can":  scoring(example(), 9, 8, 7, 6, 5, 4, 3, 2, 1, 0),
		"equal points":                 scoring(example(), 5, 5, 5, 5),
		"no points for anything":       scoring(example(), 0, 0),
		"more races count than are":    counting(example(), 8, 8),
		"protests of one bird":         protested(of(2, upTo(2), upTo(2)), protest(0, 1, api.Upheld), protest(1, 1, api.Pending)),
		"protests of one race":         protested(of(8, upTo(8)), allProtested(0, 8, api.Pending)...),
		"protests in no order":         protested(of(2, upTo(2), upTo(2)), protest(1, 1, api.Upheld), protest(0, 1, api.Refused), protest(1, 0, api.Pending)),
		"all of one owner":             owned(example(), 0, 0, 0, 0),
		"a race with all birds":        of(12, upTo(12)),
		"a race after one without any": of(2, nil, []int{1, 0}),
	}
	for _, f := range fields() {
		for _, n := range []int{f.low, f.high} {
			out[f.name+" "+strconv.Itoa(n)] = changed(func(s *api.Season) { f.set(s, n) })
		}
	}
	return out
}

// An outcome is what a function returned, without its error, and the error.
type outcome struct {
	results []any
	e       api.Errno
}

// A question is all that the functions ask beside the season.
type question struct{ race, bird, member int }

// ask calls each function.
func ask(s api.Season, q question) map[string]outcome {
	out := map[string]outcome{"Check": {nil, seasons.Check(s)}}
	put := func(name string, e api.Errno, result any) { out[name] = outcome{[]any{tidy(result)}, e} }
	places, e := seasons.Places(s, q.race, q.bird)
	put("Places", e, places)
	bird, e := seasons.Bird(s, q.bird)
	put("Bird", e, bird)
	member, e := seasons.Member(s, q.member)
	put("Member", e, member)
	aces, e := seasons.Aces(s)
	put("Aces", e, aces)
	champions, e := seasons.Champions(s)
	put("Champions", e, champions)
	rank, e := seasons.Rank(s, q.member)
	put("Rank", e, rank)
	matters, e := seasons.Matters(s)
	put("Matters", e, matters)
	fewest, e := seasons.Fewest(s, q.member)
	put("Fewest", e, fewest)
	return out
}

// tidy returns a result, but nil for an empty slice, which is the same.
func tidy(result any) any {
	v := reflect.ValueOf(result)
	if v.Kind() == reflect.Slice && v.Len() == 0 {
		return reflect.Zero(v.Type()).Interface()
	}
	return result
}

// expectErrors checks the errors of all functions: others, but for those that are named; and the zero values.
func expectErrors(t *testing.T, name string, got map[string]outcome, others api.Errno, named map[string]api.Errno) {
	t.Helper()
	for function, o := range got {
		want, is := named[function]
		if !is {
			want = others
		}
		if o.e != want {
			t.Errorf("%s: %s has the error %d, not %d", name, function, o.e, want)
		}
		for _, result := range o.results {
			if o.e != api.OK && !reflect.ValueOf(result).IsZero() {
				t.Errorf("%s: %s returns %v with an error", name, function, result)
			}
		}
	}
}

// A wrongQuestion is one, and the errors of the functions for which it is wrong.
type wrongQuestion struct {
	question
	errors map[string]api.Errno
}

// errors returns one error for some functions.
func errors(e api.Errno, functions ...string) map[string]api.Errno {
	out := map[string]api.Errno{}
	for _, function := range functions {
		out[function] = e
	}
	return out
}

// questions returns questions to the example.
func questions() []wrongQuestion {
	out := []wrongQuestion{
		{question{0, 0, 5}, nil}, {question{2, 1, 6}, nil}, {question{1, 3, 6}, nil},
		// a bird that is not in the race, and a member who is never the champion
		{question{2, 0, 5}, errors(api.ErrNone, "Places")}, {question{0, 3, 6}, errors(api.ErrNone, "Places")}, {question{0, 0, 7}, errors(api.ErrNone, "Fewest")},
	}
	for _, race := range tooFarFrom(0, 2) {
		out = append(out, wrongQuestion{question{race, 0, 5}, errors(api.ErrArg, "Places")})
	}
	for _, bird := range tooFarFrom(0, 3) {
		out = append(out, wrongQuestion{question{0, bird, 5}, errors(api.ErrArg, "Places", "Bird")}, wrongQuestion{question{3, bird, 5}, errors(api.ErrArg, "Places", "Bird")})
	}
	for _, member := range []int{0, 1, 2, 3, 4, 8, api.MaxMember, api.MaxMember + 1, -1, math.MinInt, math.MaxInt} {
		out = append(out, wrongQuestion{question{0, 0, member}, errors(api.ErrArg, "Member", "Rank", "Fewest")})
	}
	return out
}

// TestErrors: P1 and P9.1, with the errors in their order and zero values beside them.
func TestErrors(t *testing.T) {
	for _, q := range questions() {
		for name, s := range invalid() {
			expectErrors(t, name, ask(s, q.question), api.ErrSeason, nil)
		}
		expectErrors(t, "the example", ask(example(), q.question), api.OK, q.errors)
	}
	nobody := errors(api.ErrArg, "Places", "Bird", "Member", "Rank", "Fewest")
	nobody["Aces"], nobody["Champions"] = api.ErrNone, api.ErrNone
	expectErrors(t, "races without birds", ask(of(0, nil), question{}), api.OK, nobody)
	expectErrors(t, "the least", ask(valid()["the least"], question{}), api.OK, nobody)
	expectErrors(t, "birds without races", ask(of(3), question{0, 0, 10}), api.OK, map[string]api.Errno{"Places": api.ErrArg})
	expectErrors(t, "no champion but 10", ask(of(3), question{0, 0, 11}), api.OK, map[string]api.Errno{"Places": api.ErrArg, "Fewest": api.ErrNone})
}

// TestValid: P1 and P9.1, each function has an answer to each question that is as described.
func TestValid(t *testing.T) {
	for name, s := range valid() {
		if e := seasons.Check(s); e != api.OK {
			t.Errorf("%s: Check = %d", name, e)
		}
		if _, e := seasons.Matters(s); e != api.OK {
			t.Errorf("%s: Matters has the error %d", name, e)
		}
		champions, _ := seasons.Champions(s)
		for bird, owner := range s.Owners {
			wrong := map[string]api.Errno{"Places": placesError(s, 0, bird)}
			if !slices.Contains(champions, owner) {
				wrong["Fewest"] = api.ErrNone
			}
			expectErrors(t, name, ask(s, question{0, bird, owner}), api.OK, wrong)
			for race := range s.Races {
				if _, e := seasons.Places(s, race, bird); e != placesError(s, race, bird) {
					t.Errorf("%s: Places of %d in %d has the error %d", name, bird, race, e)
				}
			}
		}
	}
}

// placesError returns the error that Places has for a bird of a valid season.
func placesError(s api.Season, race, bird int) api.Errno {
	switch {
	case race >= len(s.Races):
		return api.ErrArg
	case !slices.Contains(s.Races[race].Order, bird) || slices.Contains(s.Protests, protest(race, bird, api.Upheld)):
		return api.ErrNone
	}
	return api.OK
}

// TestHuge: P1, numbers and lists beyond all limits.
func TestHuge(t *testing.T) {
	long := upTo(100000)
	for _, n := range []int{math.MinInt, -1, math.MaxInt} {
		s := api.Season{Owners: []int{n}, Races: races([]int{n}), Points: []int{n}, Best: n, Team: n, Protests: []api.Protest{protest(n, n, n)}}
		expectErrors(t, "everywhere", ask(s, question{n, n, n}), api.ErrSeason, nil)
		s = changed(func(s *api.Season) { s.Protests = []api.Protest{protest(n, 0, 0), protest(0, n, 0)} })
		expectErrors(t, "in protests", ask(s, question{n, n, n}), api.ErrSeason, nil)
	}
	for name, s := range map[string]api.Season{
		"birds":       owned(of(0), long...),
		"same owners": owned(of(0), make([]int, len(long))...),
		"races":       of(1, make([][]int, len(long))...),
		"an order":    of(12, long),
		"one bird":    of(12, make([]int, len(long))),
		"points":      scoring(of(1), make([]int, len(long))...),
		"protests":    protested(of(1, []int{0}), make([]api.Protest, len(long))...),
	} {
		expectErrors(t, name, ask(s, question{}), api.ErrSeason, nil)
	}
}

func expectPlaces(t *testing.T, i int, s api.Season, race, bird int, want api.Span) {
	t.Helper()
	if got, e := seasons.Places(s, race, bird); got != want || e != api.OK {
		t.Errorf("%d: Places of %d in %d = %v, %d, not %v", i, bird, race, got, e, want)
	}
}

func expectNowhere(t *testing.T, i int, s api.Season, race, bird int) {
	t.Helper()
	if got, e := seasons.Places(s, race, bird); got != span(0, 0) || e != api.ErrNone {
		t.Errorf("%d: Places of %d in %d = %v, %d", i, bird, race, got, e)
	}
}

func expectBird(t *testing.T, i int, s api.Season, bird int, want api.Span) {
	t.Helper()
	if got, e := seasons.Bird(s, bird); got != want || e != api.OK {
		t.Errorf("%d: Bird of %d = %v, %d, not %v", i, bird, got, e, want)
	}
}

func expectMember(t *testing.T, i int, s api.Season, member int, want api.Span) {
	t.Helper()
	if got, e := seasons.Member(s, member); got != want || e != api.OK {
		t.Errorf("%d: Member of %d = %v, %d, not %v", i, member, got, e, want)
	}
}

func expectAces(t *testing.T, i int, s api.Season, want ...int) {
	t.Helper()
	if got, e := seasons.Aces(s); !slices.Equal(got, want) || e != api.OK {
		t.Errorf("%d: Aces = %v, %d, not %v", i, got, e, want)
	}
}

func expectChampions(t *testing.T, i int, s api.Season, want ...int) {
	t.Helper()
	if got, e := seasons.Champions(s); !slices.Equal(got, want) || e != api.OK {
		t.Errorf("%d: Champions = %v, %d, not %v", i, got, e, want)
	}
}

func expectRank(t *testing.T, i int, s api.Season, member int, want api.Span) {
	t.Helper()
	if got, e := seasons.Rank(s, member); got != want || e != api.OK {
		t.Errorf("%d: Rank of %d = %v, %d, not %v", i, member, got, e, want)
	}
}

func expectMatters(t *testing.T, i int, s api.Season, want ...int) {
	t.Helper()
	if got, e := seasons.Matters(s); !slices.Equal(got, want) || e != api.OK {
		t.Errorf("%d: Matters = %v, %d, not %v", i, got, e, want)
	}
}

func expectFewest(t *testing.T, i int, s api.Season, member, want int, error api.Errno) {
	t.Helper()
	if got, e := seasons.Fewest(s, member); got != want || e != error {
		t.Errorf("%d: Fewest of %d = %v, %d, not %v, %d", i, member, got, e, want, error)
	}
}

// TestExamples: the chapter's examples.
func TestExamples(t *testing.T) {
	s := example()
	expectPlaces(t, 0, s, 0, 2, span(1, 2))
	expectPlaces(t, 1, s, 0, 1, span(2, 3))
	expectPlaces(t, 2, s, 1, 0, span(2, 3))
	for bird, want := range []api.Span{span(3, 16), span(13, 16), span(12, 20), span(6, 10)} {
		expectBird(t, bird, s, bird, want)
	}
	for i, want := range []api.Span{span(16, 20), span(12, 20), span(6, 10)} {
		expectMember(t, i, s, 5+i, want)
	}
	expectAces(t, 0, s, 0, 1, 2)
	expectChampions(t, 0, s, 5, 6)
	expectRank(t, 0, s, 6, span(1, 2))
	expectMatters(t, 0, s, 0, 1)
	expectFewest(t, 0, s, 6, 1, api.OK)
}

// TestPlaces: P9.2.
func TestPlaces(t *testing.T) {
	s := protested(of(5, []int{3, 0, 1, 2}, []int{4, 2}),
		protest(0, 0, api.Pending), protest(0, 3, api.Upheld), protest(0, 1, api.Pending), protest(1, 4, api.Refused), protest(1, 2, api.Pending))
	for i, c := range []struct {
		race, bird int
		want       api.Span
	}{
		// a place is counted by the outcomes by which the bird is in the list
		{0, 0, span(1, 1)}, {0, 1, span(1, 2)}, {0, 2, span(1, 3)}, {1, 4, span(1, 1)}, {1, 2, span(2, 2)},
	} {
		expectPlaces(t, i, s, c.race, c.bird, c.want)
	}
	// who is struck surely, or did not come
	expectNowhere(t, 0, s, 0, 3)
	expectNowhere(t, 1, s, 0, 4)
	expectNowhere(t, 2, s, 1, 0)
	expectNowhere(t, 3, of(1, nil), 0, 0)
	// protests in another race, and behind, change nothing
	expectPlaces(t, 10, protested(of(2, []int{0, 1}, []int{0, 1}), protest(1, 0, api.Upheld)), 0, 1, span(2, 2))
	expectPlaces(t, 11, protested(of(2, []int{0, 1}), protest(0, 1, api.Pending)), 0, 0, span(1, 1))
	// places without points are places, too
	expectPlaces(t, 12, of(12, upTo(12)), 0, 11, span(12, 12))
	for race := range api.MaxRaces {
		expectPlaces(t, 20+race, largest(), race, 11, span(11, 12))
	}
	expectPlaces(t, 30, protested(of(9, upTo(9)), allProtested(0, 8, api.Pending)...), 0, 8, span(1, 9))
	expectPlaces(t, 31, protested(of(9, upTo(9)), allProtested(0, 8, api.Upheld)...), 0, 8, span(1, 1))
	expectPlaces(t, 32, protested(of(9, upTo(9)), allProtested(0, 8, api.Refused)...), 0, 8, span(9, 9))
}

// TestBird: P9.3.
func TestBird(t *testing.T) {
	four := of(2, []int{0, 1}, []int{1, 0}, []int{0, 1}, []int{0})
	for i, c := range []struct {
		s    api.Season
		bird int
		want api.Span
	}{
		{four, 0, span(36, 36)}, {four, 1, span(22, 22)},
		// only the best races count, all if there are fewer
		{counting(four, 1, 1), 0, span(10, 10)}, {counting(four, 3, 1), 0, span(30, 30)}, {counting(four, 4, 1), 0, span(36, 36)}, {counting(four, 2, 1), 1, span(16, 16)}, {counting(four, 5, 1), 1, span(22, 22)},
		// Team is nothing to a bird
		{counting(four, 2, 8), 1, span(16, 16)},
		// places for which there are no points
		{of(5, upTo(5)), 2, span(3, 3)}, {of(5, upTo(5)), 3, span(0, 0)}, {of(5, upTo(5)), 4, span(0, 0)}, {scoring(of(5, upTo(5)), 7), 0, span(7, 7)}, {scoring(of(5, upTo(5)), 7), 1, span(0, 0)},
		// not in a list
		{of(3, []int{0, 1}), 2, span(0, 0)}, {of(3), 0, span(0, 0)}, {of(1, nil, nil), 0, span(0, 0)},
		// whoever is struck in a race before it, and it itself
		{protested(of(3, upTo(3)), protest(0, 0, api.Pending)), 2, span(3, 6)}, {protested(of(3, upTo(3)), protest(0, 0, api.Pending), protest(0, 1, api.Pending)), 2, span(3, 10)},
		{protested(of(3, upTo(3)), protest(0, 0, api.Upheld), protest(0, 1, api.Pending)), 2, span(6, 10)}, {protested(of(3, upTo(3)), protest(0, 0, api.Refused), protest(0, 1, api.Pending)), 2, span(3, 6)},
		{protested(of(3, upTo(3)), protest(0, 0, api.Pending)), 0, span(0, 10)}, {protested(of(3, upTo(3)), protest(0, 0, api.Upheld)), 0, span(0, 0)}, {protested(of(3, upTo(3)), protest(0, 2, api.Pending)), 1, span(6, 6)},
		{protested(of(5, upTo(5)), protest(0, 1, api.Pending)), 3, span(0, 3)}, {protested(of(5, upTo(5)), protest(0, 1, api.Pending)), 4, span(0, 0)},
		// struck in one race only
		{protested(of(1, []int{0}, []int{0}), protest(1, 0, api.Upheld)), 0, span(10, 10)}, {protested(of(1, []int{0}, []int{0}), protest(1, 0, api.Pending)), 0, span(10, 20)}, {counting(protested(of(1, []int{0}, []int{0}), protest(1, 0, api.Pending)), 1, 1), 0, span(10, 10)},
		// points that are 0, or the same
		{scoring(of(2, upTo(2)), 0), 0, span(0, 0)}, {scoring(of(2, upTo(2)), 5, 5), 1, span(5, 5)},
		{largest(), 0, span(7*api.MaxScore, 8*api.MaxScore)}, {largest(), 9, span(8*api.MaxScore, 8*api.MaxScore)}, {largest(), 10, span(0, 8*api.MaxScore)}, {largest(), 11, span(0, 0)},
	} {
		expectBird(t, i, c.s, c.bird, c.want)
	}
}

// TestMember: P9.4.
func TestMember(t *testing.T) {
	team := owned(scoring(of(4, []int{0, 1, 2, 3}, []int{3, 2, 1, 0}, []int{1, 3}), 10, 6, 3, 1), 5, 5, 6, 5)
	for i, c := range []struct {
		s      api.Season
		member int
		want   api.Span
	}{
		{team, 5, span(17+14+16, 17+14+16)}, {team, 6, span(9, 9)},
		// so many birds count in each race, and then so many races
		{counting(team, 8, 1), 5, span(30, 30)}, {counting(team, 8, 2), 5, span(16+13+16, 16+13+16)}, {counting(team, 8, 3), 5, span(47, 47)},
		{counting(team, 1, 1), 5, span(10, 10)}, {counting(team, 1, 2), 5, span(16, 16)}, {counting(team, 1, 3), 5, span(17, 17)}, {counting(team, 2, 2), 5, span(32, 32)}, {counting(team, 2, 8), 5, span(33, 33)},
		{counting(team, 1, 8), 6, span(6, 6)},
		// the sum of the race counts, not the birds' best ones
		{counting(owned(of(3, []int{0, 2}, []int{2, 1}), 5, 5, 6), 1, 2), 5, span(10, 10)}, {counting(owned(of(3, []int{0, 2}, []int{2, 1}), 5, 5, 6), 1, 2), 6, span(10, 10)}, {counting(owned(of(3, []int{0, 2}, []int{2, 1}), 5, 5, 6), 2, 2), 5, span(16, 16)},
		// whoever is struck
		{counting(protested(owned(of(3, upTo(3)), 5, 5, 6), protest(0, 0, api.Pending)), 1, 1), 5, span(10, 10)}, {counting(protested(owned(of(3, upTo(3)), 5, 5, 6), protest(0, 0, api.Pending)), 1, 2), 5, span(10, 16)},
		{protested(owned(of(3, upTo(3)), 5, 6, 5), protest(0, 1, api.Pending)), 5, span(13, 16)}, {protested(owned(of(3, upTo(3)), 5, 6, 5), protest(0, 1, api.Upheld)), 5, span(16, 16)}, {protested(owned(of(3, upTo(3)), 5, 6, 5), protest(0, 1, api.Upheld)), 6, span(0, 0)},
		// the best of one race and the worst of another one
		{counting(protested(owned(of(2, upTo(2), upTo(2)), 5, 6), protest(0, 0, api.Pending), protest(1, 0, api.Pending)), 1, 1), 5, span(0, 10)}, {counting(protested(owned(of(2, upTo(2), upTo(2)), 5, 6), protest(0, 0, api.Pending)), 1, 1), 5, span(10, 10)},
		{protested(owned(of(2, upTo(2), upTo(2)), 5, 6), protest(0, 0, api.Pending), protest(1, 0, api.Pending)), 6, span(12, 20)},
		// no races, no points, the member 0
		{of(3), 11, span(0, 0)}, {scoring(of(3, upTo(3)), 0), 10, span(0, 0)}, {owned(of(1, []int{0}), 0), 0, span(10, 10)},
		{largest(), api.MaxMember, span(8*8*api.MaxScore, 8*8*api.MaxScore)}, {largest(), api.MaxMember - 1, span(8*api.MaxScore, 16*api.MaxScore)},
	} {
		expectMember(t, i, c.s, c.member, c.want)
	}
}

// TestAces: P9.5.
func TestAces(t *testing.T) {
	for i, c := range []struct {
		s    api.Season
		want []int
	}{
		{of(3, []int{2, 1, 0}), []int{2}}, {of(1), []int{0}}, {of(3), []int{0}}, {of(3, nil), []int{0}},
		// the score is before the number of races in which one was first
		{of(3, []int{0, 1}, []int{2, 1}, []int{0, 1}, []int{2, 1}), []int{1}}, {counting(of(3, []int{0, 1}, []int{2, 1}, []int{2, 1}), 1, 1), []int{2}},
		// the same score, and the first one of more races
		{scoring(of(2, []int{1, 0}), 5, 5), []int{1}}, {scoring(of(3, []int{1, 0}, []int{2, 0}), 5, 5), []int{0}}, {scoring(of(3, []int{1, 0, 2}), 0), []int{1}}, {counting(scoring(of(2, []int{0, 1}, []int{1, 0}, []int{1, 0}), 5), 1, 1), []int{1}},
		// races that do not count for the score do so here
		{counting(of(2, []int{0}, []int{1}, []int{1}), 1, 1), []int{1}}, {counting(of(3, []int{0}, []int{1}, []int{2}, []int{2}), 1, 1), []int{2}},
		// the same in all, and the lower number
		{of(2, []int{1, 0}, []int{0, 1}), []int{0}}, {of(3, []int{2}, []int{1}), []int{1}}, {scoring(of(3, []int{2, 0, 1}, []int{1, 0, 2}), 4, 0), []int{1}},
		// who is first in the list, not who came first
		{protested(scoring(of(2, []int{0, 1}), 5, 5), protest(0, 0, api.Upheld)), []int{1}}, {protested(scoring(of(2, []int{0, 1}), 0), protest(0, 0, api.Upheld)), []int{1}}, {protested(scoring(of(3, []int{2, 1}), 0), protest(0, 2, api.Upheld), protest(0, 1, api.Upheld)), []int{0}},
		// by some outcome
		{protested(of(2, []int{0, 1}), protest(0, 0, api.Pending)), []int{0, 1}}, {protested(of(2, []int{0, 1}), protest(0, 1, api.Pending)), []int{0}}, {protested(of(2, []int{0, 1}), protest(0, 0, api.Refused)), []int{0}},
		{protested(of(3, []int{2, 1, 0}), protest(0, 2, api.Pending), protest(0, 1, api.Pending)), []int{0, 1, 2}}, {protested(of(3, []int{2, 1}), protest(0, 2, api.Pending), protest(0, 1, api.Pending)), []int{0, 1, 2}},
		{protested(of(9, upTo(9)), allProtested(0, 8, api.Pending)...), upTo(9)}, {protested(of(9, upTo(9)), allProtested(0, 8, api.Upheld)...), []int{8}},
		// of the birds 8 and 9 no race is in doubt
		{largest(), upTo(9)},
	} {
		expectAces(t, i, c.s, c.want...)
	}
}

// TestChampions: P9.6.
func TestChampions(t *testing.T) {
	for i, c := range []struct {
		s    api.Season
		want []int
	}{
		{of(3, []int{2, 1, 0}), []int{12}}, {of(1), []int{10}}, {owned(of(3), 7, 3, 5), []int{3}}, {owned(of(2), 99, 98), []int{98}}, {owned(of(2), 1, 0), []int{0}},
		// with birds that are not the ace
		{owned(of(3, []int{0, 1, 2}), 5, 6, 6), []int{5}}, {owned(scoring(of(3, []int{0, 1, 2}), 10, 6, 5), 5, 6, 6), []int{6}}, {counting(owned(scoring(of(3, []int{0, 1, 2}), 10, 6, 5), 5, 6, 6), 8, 1), []int{5}},
		// the same score, and birds that were first in more races, whichever they are
		{scoring(of(2, []int{1, 0}), 5, 5), []int{11}}, {counting(owned(scoring(of(4, []int{0, 3}, []int{2, 3}, []int{3, 0}), 5), 5, 6, 6, 5), 1, 1), []int{5}}, {counting(owned(scoring(of(4, []int{1}, []int{2}, []int{0}), 5), 5, 6, 6, 5), 1, 1), []int{6}},
		// two birds of a member in one race are first once
		{counting(owned(scoring(of(3, []int{0, 1, 2}, []int{2, 0, 1}), 5, 5, 5), 6, 6, 5), 1, 1), []int{5}},
		// the same in all, and the lower number, not that of the bird
		{owned(of(2, []int{1, 0}, []int{0, 1}), 9, 4), []int{4}}, {owned(of(2, []int{1, 0}, []int{0, 1}), 4, 9), []int{4}},
		// by some outcome
		{protested(owned(of(2, []int{0, 1}), 9, 4), protest(0, 0, api.Pending)), []int{4, 9}}, {protested(owned(of(2, []int{0, 1}), 4, 4), protest(0, 0, api.Pending)), []int{4}}, {protested(owned(of(2, []int{0, 1}), 9, 4), protest(0, 0, api.Upheld)), []int{4}}, {protested(owned(of(2, []int{0, 1}), 9, 4), protest(0, 0, api.Refused)), []int{9}},
		{protested(owned(of(3, []int{0, 1}), 9, 4, 7), protest(0, 0, api.Pending), protest(0, 1, api.Pending)), []int{4, 9}}, {protested(owned(of(3, []int{0, 1, 2}), 9, 4, 7), protest(0, 0, api.Pending), protest(0, 1, api.Pending)), []int{4, 7, 9}},
		{protested(of(9, upTo(9)), allProtested(0, 8, api.Pending)...), []int{10, 11, 12, 13, 14, 15, 16, 17, 18}},
		{largest(), []int{99}},
	} {
		expectChampions(t, i, c.s, c.want...)
	}
}

// TestRank: P9.7.
func TestRank(t *testing.T) {
	open := protested(owned(of(4, []int{0, 1, 2, 3}), 9, 4, 9, 7), protest(0, 1, api.Pending))
	for i, c := range []struct {
		s      api.Season
		member int
		want   api.Span
	}{
		{of(3, []int{2, 1, 0}), 12, span(1, 1)}, {of(3, []int{2, 1, 0}), 11, span(2, 2)}, {of(3, []int{2, 1, 0}), 10, span(3, 3)}, {of(3), 12, span(3, 3)}, {of(3), 10, span(1, 1)},
		// members are those who own a bird, each of them once
		{owned(of(2), 99, 99), 99, span(1, 1)}, {owned(of(12), 5, 5, 5, 5, 7, 7, 7, 7, 99, 99, 99, 99), 99, span(3, 3)}, {owned(of(3, []int{0}, []int{1}), 5, 5, 6), 6, span(2, 2)},
		// by the score, by first places, by the number
		{scoring(of(3, []int{2, 0, 1}), 5, 5, 5), 10, span(2, 2)}, {scoring(of(3, []int{2, 0, 1}), 5, 5, 5), 11, span(3, 3)}, {scoring(of(3, []int{2, 0, 1}), 5, 5, 5), 12, span(1, 1)},
		{owned(of(2, []int{1, 0}, []int{0, 1}), 9, 4), 9, span(2, 2)}, {owned(of(2, []int{1, 0}, []int{0, 1}), 9, 4), 4, span(1, 1)},
		// by any outcome
		{open, 9, span(1, 1)}, {open, 4, span(2, 3)}, {open, 7, span(2, 3)},
		{protested(of(3, upTo(3)), protest(0, 0, api.Pending), protest(0, 1, api.Pending)), 10, span(1, 3)}, {protested(of(3, upTo(3)), protest(0, 0, api.Pending), protest(0, 1, api.Pending)), 11, span(1, 3)}, {protested(of(3, upTo(3)), protest(0, 0, api.Pending), protest(0, 1, api.Pending)), 12, span(1, 3)},
		{protested(of(3, upTo(3)), protest(0, 0, api.Pending), protest(0, 1, api.Refused)), 11, span(1, 2)}, {protested(of(3, upTo(3)), protest(0, 0, api.Upheld), protest(0, 1, api.Refused)), 10, span(3, 3)},
		{protested(of(9, upTo(9)), allProtested(0, 8, api.Pending)...), 18, span(1, 9)}, {protested(of(9, upTo(9)), allProtested(0, 8, api.Pending)...), 10, span(1, 4)}, {largest(), 98, span(2, 2)}, {largest(), 99, span(1, 1)},
	} {
		expectRank(t, i, c.s, c.member, c.want)
	}
}

// TestMatters: P9.8.
func TestMatters(t *testing.T) {
	three := of(3, upTo(3))
	for i, c := range []struct {
		s    api.Season
		want []int
	}{
		{of(0), nil}, {of(0, nil, nil), nil}, {of(3), nil}, {three, nil},
		// who is first, and who comes next if that one is struck; nobody else
		{protested(three, protest(0, 0, api.Pending)), []int{0}}, {protested(three, protest(0, 1, api.Pending)), nil}, {protested(three, protest(0, 1, api.Pending), protest(0, 0, api.Pending)), []int{0, 1}}, {protested(three, protest(0, 0, api.Pending), protest(0, 2, api.Pending)), []int{0}},
		// for some decision of the others, not for each one
		{protested(three, protest(0, 2, api.Pending), protest(0, 1, api.Pending), protest(0, 0, api.Pending)), []int{0, 1, 2}},
		// by the numbers of all protests
		{protested(three, protest(0, 2, api.Refused), protest(0, 0, api.Pending)), []int{1}}, {protested(three, protest(0, 0, api.Upheld), protest(0, 2, api.Refused), protest(0, 1, api.Pending)), []int{2}},
		// what is decided depends on nothing
		{protested(three, protest(0, 0, api.Upheld)), nil}, {protested(three, protest(0, 0, api.Refused), protest(0, 1, api.Pending)), nil}, {protested(three, protest(0, 0, api.Upheld), protest(0, 1, api.Pending)), []int{1}},
		// the champion, not the ace
		{protested(owned(three, 5, 5, 6), protest(0, 0, api.Pending)), nil}, {protested(owned(three, 5, 5, 6), protest(0, 0, api.Pending), protest(0, 1, api.Pending)), []int{0, 1}}, {protested(owned(three, 5, 5, 5), allProtested(0, 3, api.Pending)...), nil},
		// with two races
		{counting(protested(of(2, []int{0, 1}, []int{0, 1}), protest(0, 0, api.Pending), protest(1, 0, api.Pending)), 1, 1), []int{0, 1}}, {protested(of(2, upTo(2), upTo(2), upTo(2)), protest(0, 0, api.Pending)), []int{0}}, {protested(of(2, upTo(2), upTo(2), upTo(2), upTo(2)), protest(0, 0, api.Pending)), nil},
		// the same score, and another number of first places
		{protested(scoring(of(3, []int{1, 0}, []int{2}), 5, 5), protest(1, 2, api.Pending), protest(0, 1, api.Pending)), []int{1}},
		{protested(of(9, upTo(9)), allProtested(0, 8, api.Pending)...), upTo(8)}, {largest(), nil},
	} {
		expectMatters(t, i, c.s, c.want...)
	}
}

// TestFewest: P9.9.
func TestFewest(t *testing.T) {
	three := of(3, upTo(3))
	eight := protested(of(9, upTo(9)), allProtested(0, 8, api.Pending)...)
	for i, c := range []struct {
		s      api.Season
		member int
		want   int
		e      api.Errno
	}{
		{three, 10, 0, api.OK}, {three, 11, 0, api.ErrNone}, {of(3), 10, 0, api.OK}, {of(3), 12, 0, api.ErrNone},
		{protested(three, protest(0, 0, api.Pending), protest(0, 1, api.Pending)), 10, 0, api.OK}, {protested(three, protest(0, 0, api.Pending), protest(0, 1, api.Pending)), 11, 1, api.OK}, {protested(three, protest(0, 0, api.Pending), protest(0, 1, api.Pending)), 12, 2, api.OK},
		// protests that are decided are not counted
		{protested(three, protest(0, 0, api.Upheld), protest(0, 1, api.Pending)), 12, 1, api.OK}, {protested(three, protest(0, 0, api.Upheld), protest(0, 1, api.Upheld)), 12, 0, api.OK}, {protested(three, protest(0, 0, api.Pending), protest(0, 1, api.Refused)), 12, 0, api.ErrNone},
		{protested(three, protest(0, 0, api.Upheld), protest(0, 1, api.Pending)), 10, 0, api.ErrNone}, {protested(three, protest(0, 0, api.Upheld), protest(0, 1, api.Pending)), 11, 0, api.OK},
		// who has the lower number is the champion if all are struck
		{protested(of(2, []int{1, 0}), protest(0, 1, api.Pending), protest(0, 0, api.Pending)), 10, 1, api.OK}, {protested(of(3, []int{2, 1}), protest(0, 1, api.Pending), protest(0, 2, api.Pending)), 10, 2, api.OK},
		// by the one protest or by the two other ones
		{protested(owned(of(4, []int{3, 0, 1, 2}, []int{0}), 5, 5, 6, 6), protest(1, 0, api.Pending), protest(0, 0, api.Pending), protest(0, 3, api.Pending)), 6, 1, api.OK},
		{eight, 10, 0, api.OK}, {eight, 14, 4, api.OK}, {eight, 17, 7, api.OK}, {eight, 18, 8, api.OK}, {largest(), 99, 0, api.OK}, {largest(), 98, 0, api.ErrNone},
	} {
		expectFewest(t, i, c.s, c.member, c.want, c.e)
	}
}

// TestMemory: P1 with R4, no argument is changed, and no result shares memory.
func TestMemory(t *testing.T) {
	// with memory behind all lists
	s := protested(owned(of(0, append(make([]int, 0, 9), 3, 2, 1, 0)), append(make([]int, 0, 9), 9, 4, 9, 7)...),
		append(make([]api.Protest, 0, 9), protest(0, 3, api.Pending), protest(0, 2, api.Pending))...)
	s.Points = append(make([]int, 0, 9), 10, 6)
	before := copied(s)
	ask(s, question{0, 1, 9})
	spare := slices.Concat(s.Owners[:9][4:], s.Races[0].Order[:9][4:], s.Points[:9][2:])
	if !reflect.DeepEqual(s, before) || slices.Max(spare) != 0 || slices.Max(statesOf(s.Protests[:9][2:])) != 0 {
		t.Errorf("the season is changed: %v", s)
	}
	for i, call := range []func() []int{
		func() []int { l, _ := seasons.Aces(s); return l }, func() []int { l, _ := seasons.Champions(s); return l }, func() []int { l, _ := seasons.Matters(s); return l },
	} {
		first := call()
		want := slices.Clone(first)
		first[0] = 77
		if again := call(); !slices.Equal(again, want) || len(want) < 2 {
			t.Errorf("%d: results share memory: %v", i, again)
		}
	}
	if !reflect.DeepEqual(s, before) {
		t.Errorf("a result shares memory with the season: %v", s)
	}
}

func statesOf(protests []api.Protest) []int {
	var out []int
	for _, p := range protests {
		out = append(out, p.State, p.Bird, p.Race)
	}
	return out
}
