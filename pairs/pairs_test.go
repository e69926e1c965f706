package pairs_test

import (
	"math"
	"reflect"
	"slices"
	"strconv"
	"testing"

	"squeaker/api"
	"squeaker/pairs"
)

func span(low, high int) api.Span { return api.Span{Low: low, High: high} }

func frac(num, den int) api.Frac { return api.Frac{Num: num, Den: den} }

func match(cock, hen, worth int) api.Match { return api.Match{Cock: cock, Hen: hen, Worth: worth} }

func matches(all ...api.Match) []api.Match { return all }

func bird(ring, sex int, born api.Span, sires, dams []int) api.Bird {
	return api.Bird{Ring: ring, Sex: sex, Born: born, Sires: sires, Dams: dams}
}

// family is the flock F of the chapter of layer 1.
func family() api.Flock {
	return api.Flock{Birds: []api.Bird{
		bird(100, api.Cock, span(1, 1), nil, nil),
		bird(101, api.Hen, span(1, 2), nil, nil),
		bird(102, api.Cock, span(2, 3), []int{0}, []int{1}),
		bird(103, api.Hen, span(2, 4), []int{0}, []int{1}),
		bird(102, api.Cock, span(3, 4), []int{0, 2}, []int{1, 3}),
		bird(105, api.Hen, span(5, 5), []int{4}, []int{3}),
	}}
}

// example is the aviary A of the chapter.
func example() api.Aviary {
	return api.Aviary{
		Flock: family(), Limit: frac(5, 16), Boxes: 2,
		Matches: matches(match(0, 1, 5), match(2, 3, 7), match(4, 1, 9), match(0, 5, 4), match(2, 5, 6)),
	}
}

// dark is the shed S of the chapter.
func dark() api.Shed {
	return api.Shed{Light: []int{600, 620, 640, 660, 680, 700}, Dark: 480, Need: 2600, Row: 2}
}

// changed returns the example with something changed.
func changed(change func(a *api.Aviary)) api.Aviary {
	a := example()
	change(&a)
	return a
}

// changedShed returns the chapter's shed with something changed.
func changedShed(change func(s *api.Shed)) api.Shed {
	s := dark()
	change(&s)
	return s
}

// limited returns an aviary with another limit.
func limited(a api.Aviary, num, den int) api.Aviary {
	a.Limit = frac(num, den)
	return a
}

// boxed returns an aviary with another number of boxes.
func boxed(a api.Aviary, boxes int) api.Aviary {
	a.Boxes = boxes
	return a
}

// strangers returns birds without parents: cocks, and behind them hens.
func strangers(cocks, hens int) api.Flock {
	var f api.Flock
	for i := range cocks + hens {
		sex := api.Cock
		if i >= cocks {
			sex = api.Hen
		}
		f.Birds = append(f.Birds, bird(i, sex, span(0, 0), nil, nil))
	}
	return f
}

// table returns an aviary of strangers, with the worths of all matches: a row for each cock, with a number for each hen,
// 0 if there is no match.
func table(boxes int, rows ...[]int) api.Aviary {
	a := api.Aviary{Flock: strangers(len(rows), len(rows[0])), Limit: frac(0, 1), Boxes: boxes}
	for cock, row := range rows {
		for i, worth := range row {
			if worth > 0 {
				a.Matches = append(a.Matches, match(cock, len(rows)+i, worth))
			}
		}
	}
	return a
}

// pedigrees returns a flock of ten birds, each of the last six of which has several possible parents: it has 4096
// pedigrees, or half as many more.
func pedigrees(more bool) api.Flock {
	f := strangers(2, 2)
	for i := range 6 {
		f.Birds = append(f.Birds, bird(i, api.Cock, span(i+1, 99), []int{0, 1}, []int{2, 3}))
	}
	if more {
		f.Birds[9].Sires = []int{0, 1, 4}
	}
	return f
}

// orphaned returns a flock with another bird before whose birth its only possible father was not born.
func orphaned(f api.Flock) api.Flock {
	f.Birds = slices.Clone(f.Birds)
	cock := slices.IndexFunc(f.Birds, func(b api.Bird) bool { return b.Sex == api.Cock })
	f.Birds[len(f.Birds)-1] = bird(0, f.Birds[len(f.Birds)-1].Sex, span(0, 0), []int{cock}, nil)
	return f
}

// tooFarFrom returns numbers that are not within limits.
func tooFarFrom(low, high int) []int { return []int{low - 1, high + 1, math.MinInt, math.MaxInt} }

// A field is a number of an aviary or a shed, the limits of it, and how it is set.
type field[T any] struct {
	name      string
	low, high int
	set       func(x *T, n int)
}

// fields returns all numbers of an aviary that have limits.
func fields() []field[api.Aviary] {
	out := []field[api.Aviary]{
		{"Num", 0, 16, func(a *api.Aviary, n int) { a.Limit.Num = n }},
		{"Den", 5, api.MaxDen, func(a *api.Aviary, n int) { a.Limit.Den = n }},
		{"Den of 0", 1, api.MaxDen, func(a *api.Aviary, n int) { a.Limit = frac(0, n) }},
		{"Num of the greatest Den", 0, api.MaxDen, func(a *api.Aviary, n int) { a.Limit = frac(n, api.MaxDen) }},
		{"Boxes", 0, api.MaxBirds, func(a *api.Aviary, n int) { a.Boxes = n }},
	}
	for i := range example().Matches {
		of := " of the match " + strconv.Itoa(i)
		out = append(out,
			field[api.Aviary]{"Worth" + of, 1, api.MaxWorth, func(a *api.Aviary, n int) { a.Matches[i].Worth = n }},
			field[api.Aviary]{"Cock" + of, 0, 2, func(a *api.Aviary, n int) { // of birds of which the first three are cocks
				a.Flock = strangers(3, 3)
				a.Matches = matches(match(0, 5, 1), match(1, 5, 1), match(2, 5, 1), match(0, 4, 1), match(1, 4, 1))
				a.Matches[i].Cock, a.Matches[i].Hen = n, 3
			}},
			field[api.Aviary]{"Hen" + of, 3, 5, func(a *api.Aviary, n int) {
				a.Flock = strangers(3, 3)
				a.Matches = matches(match(0, 3, 1), match(1, 3, 1), match(0, 4, 1), match(1, 4, 1), match(0, 5, 1))
				a.Matches[i].Cock, a.Matches[i].Hen = 2, n
			}})
	}
	return out
}

// shedFields returns all numbers of a shed that have limits.
func shedFields() []field[api.Shed] {
	out := []field[api.Shed]{
		{"Dark", 0, api.MaxLight, func(s *api.Shed, n int) { s.Dark = n }},
		{"Need", 1, api.MaxNeed, func(s *api.Shed, n int) { s.Need = n }},
		{"Row", 0, api.MaxLights, func(s *api.Shed, n int) { s.Row = n }},
	}
	for i := range dark().Light {
		out = append(out, field[api.Shed]{"Light of " + strconv.Itoa(i), 0, api.MaxLight, func(s *api.Shed, n int) { s.Light[i] = n }})
	}
	return out
}

// with returns what an example is with each of some numbers of each field.
func with[T any](example func() T, fields []field[T], numbers func(low, high int) []int) map[string]T {
	out := map[string]T{}
	for _, f := range fields {
		for _, n := range numbers(f.low, f.high) {
			x := example()
			f.set(&x, n)
			out[f.name+" "+strconv.Itoa(n)] = x
		}
	}
	return out
}

// invalid returns aviaries that are not valid, by what is broken, whose flocks are.
func invalid() map[string]api.Aviary {
	out := with(example, fields(), tooFarFrom)
	for name, change := range map[string]func(a *api.Aviary){
		"nothing":               func(a *api.Aviary) { *a = api.Aviary{} },
		"no birds":              func(a *api.Aviary) { a.Flock.Birds = nil },
		"a bird too few":        func(a *api.Aviary) { a.Flock.Birds = a.Flock.Birds[:5] },
		"no limit":              func(a *api.Aviary) { a.Limit = api.Frac{} },
		"a negative fraction":   func(a *api.Aviary) { a.Limit = frac(-1, -2) },
		"a limit above 1":       func(a *api.Aviary) { a.Limit = frac(2, 1) },
		"a match twice":         func(a *api.Aviary) { a.Matches = append(a.Matches, a.Matches[0]) },
		"with another worth":    func(a *api.Aviary) { a.Matches = append(a.Matches, match(2, 5, 1)) },
		"a match twice at once": func(a *api.Aviary) { a.Matches[1] = match(0, 1, 6) },
		"one of two hens":       func(a *api.Aviary) { a.Matches[2].Cock = 3 },
		"one of two cocks":      func(a *api.Aviary) { a.Matches[2].Hen = 0 },
		"one of a bird itself":  func(a *api.Aviary) { a.Matches[2].Hen = 4 },
		"hen and cock":          func(a *api.Aviary) { a.Matches[2] = match(1, 4, 9) },
		"the last hen is none":  func(a *api.Aviary) { a.Matches[4].Hen = 2 },
		"a match too many":      func(a *api.Aviary) { *a = table(5, square(5)...); a.Matches = append(a.Matches, a.Matches[24]) },
		"a match of no birds":   func(a *api.Aviary) { a.Flock.Birds, a.Matches = nil, matches(match(0, 0, 1)) },
		"much, and too many":    func(a *api.Aviary) { a.Flock, a.Matches, a.Boxes = pedigrees(true), nil, 11 },
		"no truth":              func(a *api.Aviary) { a.Flock, a.Boxes = orphaned(a.Flock), 11 },
	} {
		out[name] = changed(change)
	}
	return out
}

// square returns rows of a table in which all worths differ.
func square(n int) [][]int {
	var rows [][]int
	for cock := range n {
		var row []int
		for hen := range n {
			row = append(row, 100+cock*(n-hen)+7*hen)
		}
		rows = append(rows, row)
	}
	return rows
}

// valid returns aviaries that are valid, though they look like some that are not.
func valid() map[string]api.Aviary {
	out := with(example, fields(), func(low, high int) []int { return []int{low, high} })
	for name, a := range map[string]api.Aviary{
		"the example":            example(),
		"the least":              {Limit: frac(0, 1)},
		"empty, not nil":         {Flock: api.Flock{Birds: []api.Bird{}}, Limit: frac(0, 1), Matches: []api.Match{}},
		"boxes without birds":    {Limit: frac(1, 1), Boxes: api.MaxBirds},
		"a common divisor":       limited(example(), 1024, api.MaxDen),
		"as many matches as can": table(5, square(5)...),
		"one cock":               table(3, []int{1, 2, 3, 4, 5, 6, 7, 8, 9}),
		"one hen":                table(3, []int{1}, []int{999}, []int{1}),
		"just cocks":             {Flock: strangers(10, 0), Limit: frac(0, 1), Boxes: 1},
		"just hens":              {Flock: strangers(0, 10), Limit: frac(0, 1), Boxes: 1},
		"4096 pedigrees":         {Flock: pedigrees(false), Limit: frac(1, 2), Boxes: 1, Matches: matches(match(9, 2, 1))},
	} {
		out[name] = a
	}
	return out
}

// invalidSheds returns sheds that are not valid, by what is broken.
func invalidSheds() map[string]api.Shed {
	out := with(dark, shedFields(), tooFarFrom)
	out["nothing"] = api.Shed{}
	out["no days"] = changedShed(func(s *api.Shed) { s.Light = nil })
	out["a day too many"] = changedShed(func(s *api.Shed) { s.Light = make([]int, api.MaxLights+1) })
	return out
}

// validSheds returns sheds that are valid, though they look like some that are not.
func validSheds() map[string]api.Shed {
	out := with(dark, shedFields(), func(low, high int) []int { return []int{low, high} })
	out["the example"] = dark()
	out["the least"] = api.Shed{Light: []int{0}, Need: 1}
	return out
}

// An outcome is what a function returned, without its error, and the error.
type outcome struct {
	results []any
	e       api.Errno
}

// ask calls each function of aviaries.
func ask(a api.Aviary, cock, hen int) map[string]outcome {
	out := map[string]outcome{"Check": {nil, pairs.Check(a)}}
	may, e := pairs.May(a, cock, hen)
	out["May"] = outcome{[]any{may}, e}
	all, e := pairs.Pairs(a)
	out["Pairs"] = outcome{[]any{tidy(all)}, e}
	most, e := pairs.Most(a)
	out["Most"] = outcome{[]any{most}, e}
	plan, e := pairs.Plan(a)
	out["Plan"] = outcome{[]any{tidy(plan)}, e}
	birds, box, e := pairs.Prices(a)
	out["Prices"] = outcome{[]any{tidy(birds), box}, e}
	return out
}

// askShed calls each function of sheds.
func askShed(s api.Shed, day int) map[string]outcome {
	moult, e := pairs.Moult(s)
	out := map[string]outcome{"Moult": {[]any{moult}, e}}
	fewest, e := pairs.Fewest(s, day)
	out["Fewest"] = outcome{[]any{fewest}, e}
	days, e := pairs.Darken(s, day)
	out["Darken"] = outcome{[]any{tidy(days)}, e}
	return out
}

// tidy returns a slice, but nil for an empty one, which is the same.
func tidy[T any](list []T) []T {
	if len(list) == 0 {
		return nil
	}
	return list
}

// errors returns one error for some functions.
func errors(e api.Errno, functions ...string) map[string]api.Errno {
	out := map[string]api.Errno{}
	for _, function := range functions {
		out[function] = e
	}
	return out
}

// expectErrors checks the errors of all functions: others, but for those that are named; and the zero values.
func expectErrors(t *testing.T, name string, got map[string]outcome, others api.Errno, named map[string]api.Errno) {
	t.Helper()
	for function, o := range got {
		want, is := named[function]
		if !is {
			want = others
		}
		if o.e != want {
			t.Errorf("%s: %s has the error %d, not %d", name, function, o.e, want)
		}
		for _, result := range o.results {
			if o.e != api.OK && !reflect.ValueOf(result).IsZero() {
				t.Errorf("%s: %s returns %v with an error", name, function, result)
			}
		}
	}
}

// noCouples returns numbers that are not those of a cock and a hen of the example.
func noCouples() [][2]int {
	out := [][2]int{{1, 0}, {0, 2}, {2, 2}, {1, 3}, {5, 5}, {3, 1}, {6, 6}}
	for _, n := range tooFarFrom(0, 5) {
		out = append(out, [2]int{n, 1}, [2]int{0, n}, [2]int{n, n})
	}
	return out
}

// badFlocks returns flocks that are not valid.
func badFlocks() map[string]api.Flock {
	out := map[string]api.Flock{"a bird too many": strangers(6, 5)}
	for name, change := range map[string]func(birds []api.Bird){
		"a ring":       func(birds []api.Bird) { birds[3].Ring = api.MaxRing + 1 },
		"a sex":        func(birds []api.Bird) { birds[2].Sex = 3 },
		"years":        func(birds []api.Bird) { birds[5].Born = span(5, 4) },
		"a father":     func(birds []api.Bird) { birds[4].Sires = []int{0, 1} },
		"a mother":     func(birds []api.Bird) { birds[4].Dams = []int{3, 1} },
		"its own sire": func(birds []api.Bird) { birds[2].Sires = []int{2} },
	} {
		f := family()
		change(f.Birds)
		out[name] = f
	}
	return out
}

// TestErrors: P1 and P10.1, with the errors of aviaries in their order and zero values beside them.
func TestErrors(t *testing.T) {
	noCouple := errors(api.ErrArg, "May")
	for _, couple := range append(noCouples(), [2]int{0, 1}, [2]int{4, 5}) {
		cock, hen := couple[0], couple[1]
		for name, f := range badFlocks() {
			expectErrors(t, name, ask(changed(func(a *api.Aviary) { a.Flock = f }), cock, hen), api.ErrFlock, nil)
			expectErrors(t, name+" of nothing", ask(api.Aviary{Flock: f, Boxes: -1}, cock, hen), api.ErrFlock, nil)
		}
		for name, a := range invalid() {
			expectErrors(t, name, ask(a, cock, hen), api.ErrAviary, nil)
		}
		many := changed(func(a *api.Aviary) { a.Flock, a.Matches = pedigrees(true), nil })
		expectErrors(t, "too many pedigrees", ask(many, cock, hen), api.ErrMany, errors(api.OK, "Check"))
	}
	for _, couple := range noCouples() {
		expectErrors(t, "no couple", ask(example(), couple[0], couple[1]), api.OK, noCouple)
		none := changed(func(a *api.Aviary) { a.Flock = orphaned(a.Flock) })
		wrong := errors(api.OK, "Check")
		wrong["May"] = api.ErrArg
		expectErrors(t, "no couple, no truth", ask(none, couple[0], couple[1]), api.ErrNone, wrong)
	}
}

// TestNoTruth: P1 and P10.1, of flocks without a truth.
func TestNoTruth(t *testing.T) {
	fine := errors(api.OK, "Check")
	none := changed(func(a *api.Aviary) { a.Flock = orphaned(a.Flock) })
	expectErrors(t, "no truth", ask(none, 0, 1), api.ErrNone, fine)
	expectErrors(t, "no boxes", ask(boxed(none, 0), 2, 5), api.ErrNone, fine)
	none.Matches = nil
	expectErrors(t, "no matches", ask(none, 4, 1), api.ErrNone, fine)
	most := changed(func(a *api.Aviary) { a.Flock, a.Matches = orphaned(pedigrees(false)), matches(match(0, 2, 1)) })
	expectErrors(t, "no truth of 1024", ask(most, 0, 2), api.ErrNone, fine)
	much := changed(func(a *api.Aviary) {
		a.Flock, a.Matches = pedigrees(true), matches(match(0, 2, 1))
		a.Flock.Birds[9].Born = span(0, 0)
	})
	expectErrors(t, "no truth of 6144", ask(much, 0, 2), api.ErrMany, fine)
	expectErrors(t, "no birds", ask(api.Aviary{Limit: frac(0, 1)}, 0, 0), api.OK, errors(api.ErrArg, "May"))
}

// TestShedErrors: P1, with the errors of sheds in their order and zero values beside them.
func TestShedErrors(t *testing.T) {
	days := append(tooFarFrom(0, 5), 0, 5)
	for _, day := range days {
		for name, s := range invalidSheds() {
			expectErrors(t, name, askShed(s, day), api.ErrShed, nil)
		}
	}
	for _, day := range tooFarFrom(0, 5) {
		expectErrors(t, "no day", askShed(dark(), day), api.OK, errors(api.ErrArg, "Fewest", "Darken"))
		late := changedShed(func(s *api.Shed) { s.Need = api.MaxNeed })
		expectErrors(t, "no day, no moult", askShed(late, day), api.ErrArg, errors(api.ErrNone, "Moult"))
		soon := changedShed(func(s *api.Shed) { s.Need, s.Row = 1, 0 })
		expectErrors(t, "no day, no darkness", askShed(soon, day), api.ErrArg, errors(api.OK, "Moult"))
	}
	expectErrors(t, "the last day", askShed(dark(), 5), api.ErrNone, errors(api.OK, "Moult"))
	one := api.Shed{Light: []int{9}, Need: 9}
	expectErrors(t, "one day", askShed(one, 1), api.ErrArg, errors(api.OK, "Moult"))
	expectErrors(t, "one day", askShed(one, 0), api.ErrNone, errors(api.OK, "Moult"))
}

// TestValid: P1 and P10.1, each function has an answer to each question that is as described.
func TestValid(t *testing.T) {
	for name, a := range valid() {
		expectErrors(t, name, ask(a, -1, -1), api.OK, errors(api.ErrArg, "May"))
		for cock, c := range a.Flock.Birds {
			for hen, h := range a.Flock.Birds {
				want := api.OK
				if c.Sex != api.Cock || h.Sex != api.Hen {
					want = api.ErrArg
				}
				if may, e := pairs.May(a, cock, hen); e != want || (e == api.OK) != (1 <= may && may <= 3) {
					t.Errorf("%s: May of %d and %d = %d, %d", name, cock, hen, may, e)
				}
			}
		}
		expectBest(t, name, a)
	}
	for name, s := range validSheds() {
		for day := range s.Light {
			expectErrors(t, name, askShed(s, day), api.OK, noneOf(s, day))
		}
	}
	long := api.Shed{Light: slices.Repeat([]int{api.MaxLight}, api.MaxLights), Dark: api.MaxLight, Need: api.MaxNeed, Row: api.MaxLights}
	for day := range long.Light {
		expectErrors(t, "as many days as can be", askShed(long, day), api.OK, errors(api.ErrNone, "Moult"))
	}
}

// noneOf returns the functions that have ErrNone for a valid shed and a day of it.
func noneOf(s api.Shed, day int) map[string]api.Errno {
	none := map[string]api.Errno{}
	if _, begins := modelMoult(s, nil); !begins {
		none["Moult"] = api.ErrNone
	}
	if _, can := modelFewest(s, day); !can {
		none["Fewest"], none["Darken"] = api.ErrNone, api.ErrNone
	}
	return none
}

// TestHuge: P1, numbers and lists beyond all limits.
func TestHuge(t *testing.T) {
	const long = 100000
	for _, n := range []int{math.MinInt, -1, math.MaxInt} {
		a := changed(func(a *api.Aviary) { a.Limit, a.Boxes, a.Matches = frac(n, n), n, matches(match(n, n, n)) })
		expectErrors(t, "everywhere", ask(a, n, n), api.ErrAviary, nil)
		a.Flock.Birds = []api.Bird{bird(n, n, span(n, n), []int{n}, []int{n})}
		expectErrors(t, "in birds", ask(a, n, n), api.ErrFlock, nil)
		s := api.Shed{Light: []int{n, n, n}, Dark: n, Need: n, Row: n}
		expectErrors(t, "in sheds", askShed(s, n), api.ErrShed, nil)
	}
	expectErrors(t, "birds", ask(changed(func(a *api.Aviary) { a.Flock = strangers(long, long) }), 0, 1), api.ErrFlock, nil)
	expectErrors(t, "same matches", ask(changed(func(a *api.Aviary) { a.Matches = slices.Repeat(a.Matches, long) }), 0, 1), api.ErrAviary, nil)
	expectErrors(t, "matches", ask(changed(func(a *api.Aviary) { a.Matches = make([]api.Match, long) }), 0, 1), api.ErrAviary, nil)
	expectErrors(t, "days", askShed(changedShed(func(s *api.Shed) { s.Light = make([]int, long) }), 0), api.ErrShed, nil)
}

func expectMay(t *testing.T, i int, a api.Aviary, cock, hen, want int) {
	t.Helper()
	if got, e := pairs.May(a, cock, hen); got != want || e != api.OK {
		t.Errorf("%d: May of %d and %d = %d, %d, not %d", i, cock, hen, got, e, want)
	}
}

func expectPairs(t *testing.T, i int, a api.Aviary, want ...api.Match) {
	t.Helper()
	if got, e := pairs.Pairs(a); !slices.Equal(got, want) || e != api.OK {
		t.Errorf("%d: Pairs = %v, %d, not %v", i, got, e, want)
	}
}

func expectMost(t *testing.T, i int, a api.Aviary, want int) {
	t.Helper()
	if got, e := pairs.Most(a); got != want || e != api.OK {
		t.Errorf("%d: Most = %d, %d, not %d", i, got, e, want)
	}
	expectBest(t, strconv.Itoa(i), a)
}

// expectBest checks that Plan is a plan, that Prices are prices, and that both are worth Most.
func expectBest(t *testing.T, name string, a api.Aviary) {
	t.Helper()
	most, e := pairs.Most(a)
	may, f := pairs.Pairs(a)
	if e != api.OK || f != api.OK {
		t.Errorf("%s: Most and Pairs have the errors %d and %d", name, e, f)
	}
	plan, e := pairs.Plan(a)
	if e != api.OK || !isPlan(a, may, plan) || worthOf(plan) != most {
		t.Errorf("%s: Plan = %v, %d, Most = %d, Pairs = %v", name, plan, e, most, may)
	}
	birds, box, e := pairs.Prices(a)
	if e != api.OK || !arePrices(a, may, birds, box) || boundOf(a, birds, box) != most {
		t.Errorf("%s: Prices = %v, %d, %d, Most = %d, Pairs = %v", name, birds, box, e, most, may)
	}
}

func expectPlan(t *testing.T, i int, a api.Aviary, want ...api.Match) {
	t.Helper()
	got, e := pairs.Plan(a)
	if !slices.Equal(inOrder(got), inOrder(want)) || e != api.OK {
		t.Errorf("%d: Plan = %v, %d, not %v", i, got, e, want)
	}
}

func expectPrices(t *testing.T, i int, a api.Aviary, box int, want ...int) {
	t.Helper()
	got, gotBox, e := pairs.Prices(a)
	if !slices.Equal(got, want) || gotBox != box || e != api.OK {
		t.Errorf("%d: Prices = %v, %d, %d, not %v, %d", i, got, gotBox, e, want, box)
	}
}

func expectMoult(t *testing.T, i int, s api.Shed, want int, error api.Errno) {
	t.Helper()
	if got, e := pairs.Moult(s); got != want || e != error {
		t.Errorf("%d: Moult = %d, %d, not %d, %d", i, got, e, want, error)
	}
}

// expectFewest checks Fewest, and that Darken returns days, as many.
func expectFewest(t *testing.T, i int, s api.Shed, day, want int, error api.Errno) {
	t.Helper()
	if got, e := pairs.Fewest(s, day); got != want || e != error {
		t.Errorf("%d: Fewest of %d = %d, %d, not %d, %d", i, day, got, e, want, error)
	}
	days, e := pairs.Darken(s, day)
	if e != error || len(days) != want || e == api.OK && !areDays(s, day, days) {
		t.Errorf("%d: Darken of %d = %v, %d, not %d days, %d", i, day, days, e, want, error)
	}
}

func expectDarken(t *testing.T, i int, s api.Shed, day int, want ...int) {
	t.Helper()
	if got, e := pairs.Darken(s, day); !slices.Equal(got, want) || e != api.OK {
		t.Errorf("%d: Darken of %d = %v, %d, not %v", i, day, got, e, want)
	}
}

// TestExamples: the chapter's examples.
func TestExamples(t *testing.T) {
	a, s := example(), dark()
	expectMay(t, 0, a, 0, 1, api.Surely)
	expectMay(t, 1, a, 4, 1, api.Perhaps)
	expectMay(t, 2, a, 2, 5, api.Surely)
	expectMay(t, 3, limited(a, 1, 8), 2, 3, api.Never)
	expectMay(t, 4, limited(a, 1, 8), 4, 1, api.Perhaps)
	expectPairs(t, 0, a, match(0, 1, 5), match(0, 5, 4), match(2, 3, 7), match(2, 5, 6))
	expectMost(t, 0, a, 12)
	expectMost(t, 1, boxed(a, 1), 7)
	expectMost(t, 2, boxed(a, 3), 12)
	expectMoult(t, 0, s, 4, api.OK)
	expectFewest(t, 0, s, 3, 0, api.OK)
	expectFewest(t, 1, s, 4, 4, api.OK)
	expectFewest(t, 2, s, 5, 0, api.ErrNone)
	expectDarken(t, 0, s, 4, 0, 1, 3, 4)
}

// TestMay: P10.2. The chicks of 4 and 1 have from 1 / 8 to 3 / 8, those of 2 and 3 have 1 / 4, those of 0 and 1 have 0.
func TestMay(t *testing.T) {
	for i, c := range []struct {
		cock, hen, num, den, want int
	}{
		{4, 1, 0, 1, api.Never}, {4, 1, 511, 4096, api.Never}, {4, 1, 1, 9, api.Never},
		{4, 1, 1, 8, api.Perhaps}, {4, 1, 512, 4096, api.Perhaps}, {4, 1, 1, 7, api.Perhaps}, {4, 1, 1, 4, api.Perhaps},
		{4, 1, 1, 3, api.Perhaps}, {4, 1, 1535, 4096, api.Perhaps},
		{4, 1, 3, 8, api.Surely}, {4, 1, 6, 16, api.Surely}, {4, 1, 1536, 4096, api.Surely}, {4, 1, 1, 2, api.Surely}, {4, 1, 1, 1, api.Surely},
		{2, 3, 1, 4, api.Surely}, {2, 3, 25, 100, api.Surely}, {2, 3, 1023, 4096, api.Never}, {2, 3, 24, 100, api.Never}, {2, 3, 2, 7, api.Surely},
		{0, 1, 0, 1, api.Surely}, {0, 1, 0, 4096, api.Surely}, {0, 1, 7, 7, api.Surely},
		// couples of which there is no match
		{0, 3, 1, 4, api.Surely}, {2, 1, 1, 5, api.Never}, {4, 3, 1, 4, api.Perhaps}, {4, 5, 1, 16, api.Never},
	} {
		expectMay(t, i, limited(example(), c.num, c.den), c.cock, c.hen, c.want)
	}
	// neither boxes nor matches change it
	expectMay(t, 30, api.Aviary{Flock: family(), Limit: frac(5, 16)}, 4, 1, api.Perhaps)
	expectMay(t, 31, boxed(example(), 0), 0, 1, api.Surely)
	// a truth of which the years allow just some: 2 cannot be the father of 4
	a := limited(example(), 1, 4)
	expectMay(t, 32, a, 4, 3, api.Perhaps)
	a.Flock.Birds[4].Born, a.Flock.Birds[2].Born, a.Flock.Birds[3].Born = span(3, 3), span(3, 3), span(3, 4)
	expectMay(t, 33, a, 4, 3, api.Surely)
	for cock := range 4 {
		expectMay(t, 40+cock, table(1, square(4)...), cock, 4, api.Surely)
	}
}

// TestPairs: P10.3.
func TestPairs(t *testing.T) {
	one, two, three, four := match(0, 1, 5), match(2, 3, 7), match(0, 5, 4), match(2, 5, 6)
	a := example()
	// by the inbreeding: 0 of 0 and 1, 1 / 4 of 2 and 3, at most 5 / 16 of 2 and 5, at most 3 / 8 of 4 and 1
	expectPairs(t, 0, limited(a, 0, 1), one)
	expectPairs(t, 1, limited(a, 3, 8), one, three, two, four, match(4, 1, 9))
	expectPairs(t, 2, limited(a, 1, 1), one, three, two, four, match(4, 1, 9))
	// whatever the boxes and the worths, in whichever order
	expectPairs(t, 3, boxed(a, 0), one, three, two, four)
	for i := range a.Matches {
		b := example()
		b.Matches = slices.Concat(b.Matches[i:], b.Matches[:i])
		expectPairs(t, 4+i, b, one, three, two, four)
		slices.Reverse(b.Matches)
		expectPairs(t, 10+i, b, one, three, two, four)
	}
	a.Matches[0].Worth, a.Matches[4].Worth = 999, 1
	expectPairs(t, 20, a, match(0, 1, 999), three, two, match(2, 5, 1))
	a.Matches = matches(match(4, 1, 9))
	expectPairs(t, 21, a)
	a.Matches = nil
	expectPairs(t, 22, a)
	all := table(1, square(5)...)
	want := slices.Clone(all.Matches)
	slices.Reverse(all.Matches)
	expectPairs(t, 23, all, want...)
}

// TestMost: P10.4.
func TestMost(t *testing.T) {
	for i, c := range []struct {
		boxes, want int
		rows        [][]int
	}{
		{1, 9, [][]int{{9}}}, {0, 0, [][]int{{9}}}, {10, 9, [][]int{{9}}},
		{1, 3, [][]int{{1, 3, 2}}}, {3, 3, [][]int{{1, 3, 2}}}, {3, 3, [][]int{{1}, {3}, {2}}},
		// the greatest match is not in the plan, or is not alone
		{2, 16, [][]int{{9, 8}, {8, 0}}}, {1, 9, [][]int{{9, 8}, {8, 0}}}, {2, 10, [][]int{{9, 1}, {1, 1}}}, {2, 9, [][]int{{9, 4}, {4, 0}}},
		{3, 25, [][]int{{9, 8, 0}, {0, 9, 8}, {8, 0, 7}}}, {3, 24, [][]int{{9, 8, 0}, {0, 9, 8}, {8, 0, 5}}},
		// with fewer boxes not just a match less
		{1, 10, [][]int{{10, 6}, {7, 0}}}, {2, 13, [][]int{{10, 6}, {7, 0}}},
		{2, 18, [][]int{{9, 9}, {9, 9}}}, {2, 2, [][]int{{1, 1, 1}, {1, 1, 1}, {1, 1, 1}}},
		{4, 1998, [][]int{{999, 999, 999, 999, 999, 999, 999, 999}, {999, 999, 999, 999, 999, 999, 999, 999}}},
		{5, 4995, [][]int{{0, 0, 0, 0, 999}, {0, 0, 0, 999, 0}, {0, 0, 999, 0, 0}, {0, 999, 0, 0, 0}, {999, 0, 0, 0, 0}}},
		{5, 10, [][]int{{1, 2, 3, 4, 5}, {0, 2, 3, 4, 5}, {0, 0, 1, 1, 1}, {0, 0, 0, 0, 1}, {0, 0, 0, 0, 1}}},
		{1, 0, [][]int{{0, 0}, {0, 0}}},
	} {
		expectMost(t, i, table(c.boxes, c.rows...), c.want)
	}
	expectMost(t, 30, api.Aviary{Limit: frac(0, 1), Boxes: 3}, 0)
	expectMost(t, 31, boxed(limited(example(), 3, 8), 2), 16)
	expectMost(t, 32, boxed(limited(example(), 3, 8), 3), 20)
	expectMost(t, 33, boxed(limited(example(), 0, 1), 3), 5)
	expectMost(t, 34, boxed(example(), 0), 0)
}

// TestPlan: P10.5, with plans of which there is just one.
func TestPlan(t *testing.T) {
	expectPlan(t, 0, example(), match(0, 1, 5), match(2, 3, 7))
	expectPlan(t, 1, boxed(example(), 1), match(2, 3, 7))
	expectPlan(t, 2, boxed(example(), 0))
	expectPlan(t, 3, limited(example(), 3, 8), match(4, 1, 9), match(2, 3, 7))
	expectPlan(t, 4, boxed(limited(example(), 3, 8), 3), match(4, 1, 9), match(2, 3, 7), match(0, 5, 4))
	expectPlan(t, 5, table(2, []int{9, 8}, []int{8, 0}), match(0, 3, 8), match(1, 2, 8))
	expectPlan(t, 6, api.Aviary{Limit: frac(0, 1), Boxes: 3})
	expectPlan(t, 7, changed(func(a *api.Aviary) { a.Matches = matches(match(4, 1, 9)) }))
	same := table(5, slices.Repeat([][]int{slices.Repeat([]int{7}, 5)}, 5)...)
	expectMost(t, 8, same, 35)
	first, _ := pairs.Plan(same)
	for range 20 {
		expectPlan(t, 9, same, first...)
	}
}

// TestPrices: P10.6, with prices of which there are just those.
func TestPrices(t *testing.T) {
	expectPrices(t, 0, api.Aviary{Limit: frac(0, 1), Boxes: 1}, 0)
	expectPrices(t, 1, boxed(changed(func(a *api.Aviary) { a.Matches = nil }), 2), 0, 0, 0, 0, 0, 0, 0)
	// a match that may not be has no price
	expectPrices(t, 2, boxed(changed(func(a *api.Aviary) { a.Matches = matches(match(4, 1, 9)) }), 1), 0, 0, 0, 0, 0, 0, 0)
	// three equal pairs for two boxes: all is paid for the boxes
	expectPrices(t, 3, table(2, []int{7, 0, 0}, []int{0, 7, 0}, []int{0, 0, 7}), 7, 0, 0, 0, 0, 0, 0)
	// two cocks for one hen, then two hens for one cock, with boxes for all
	expectPrices(t, 4, table(2, []int{5}, []int{5}), 0, 0, 0, 5)
	expectPrices(t, 5, table(2, []int{5, 5}), 0, 5, 0, 0)
	expectPrices(t, 6, table(3, []int{999, 999}), 0, 999, 0, 0)
	// the greatest price of a box, and what is worth nothing without one
	expectPrices(t, 7, table(1, []int{999, 0}, []int{0, 999}), 999, 0, 0, 0, 0)
	expectBest(t, "no box", table(0, []int{999}, []int{998}))
	first, box, _ := pairs.Prices(table(3, square(5)...))
	for range 20 {
		expectPrices(t, 8, table(3, square(5)...), box, first...)
	}
	for boxes := range api.MaxBirds + 1 {
		expectBest(t, "boxes "+strconv.Itoa(boxes), table(boxes, square(5)...))
		expectBest(t, "boxes of A "+strconv.Itoa(boxes), boxed(example(), boxes))
		expectBest(t, "boxes of more of A "+strconv.Itoa(boxes), boxed(limited(example(), 3, 8), boxes))
	}
}

// TestMoult: P10.7.
func TestMoult(t *testing.T) {
	for i, c := range []struct {
		need, want int
		e          api.Errno
	}{
		{1, 0, api.OK}, {600, 0, api.OK}, {601, 1, api.OK}, {1220, 1, api.OK}, {1221, 2, api.OK}, {3200, 4, api.OK}, {3201, 5, api.OK},
		{3900, 5, api.OK}, {3901, 0, api.ErrNone}, {api.MaxNeed, 0, api.ErrNone},
	} {
		expectMoult(t, i, changedShed(func(s *api.Shed) { s.Need, s.Row = c.need, i }), c.want, c.e)
		expectMoult(t, i, changedShed(func(s *api.Shed) { s.Need, s.Dark = c.need, 0 }), c.want, c.e)
	}
	expectMoult(t, 20, api.Shed{Light: []int{0, 0, 1, 0}, Need: 1}, 2, api.OK)
	expectMoult(t, 21, api.Shed{Light: []int{0, 0, 0}, Need: 1}, 0, api.ErrNone)
	expectMoult(t, 22, api.Shed{Light: slices.Repeat([]int{1440}, 20), Need: 20 * 1440}, 19, api.OK)
	expectMoult(t, 23, api.Shed{Light: slices.Repeat([]int{1440}, 20), Need: 20*1440 + 1}, 0, api.ErrNone)
}

// TestFewest: P10.8 and P10.9.
func TestFewest(t *testing.T) {
	full := func(row, need int) api.Shed {
		return api.Shed{Light: slices.Repeat([]int{1000}, 20), Dark: 400, Need: need, Row: row}
	}
	for i, c := range []struct {
		s         api.Shed
		day, want int
		e         api.Errno
	}{
		// just not so much as is needed, and just as much
		{api.Shed{Light: []int{9}, Need: 10}, 0, 0, api.OK}, {api.Shed{Light: []int{9}, Need: 9}, 0, 0, api.ErrNone},
		{api.Shed{Light: []int{9}, Dark: 5, Need: 9, Row: 1}, 0, 1, api.OK}, {api.Shed{Light: []int{9}, Dark: 5, Need: 6, Row: 1}, 0, 1, api.OK},
		{api.Shed{Light: []int{9}, Dark: 5, Need: 5, Row: 1}, 0, 0, api.ErrNone}, {api.Shed{Light: []int{9}, Need: 1, Row: 1}, 0, 1, api.OK},
		// darkness that is lighter than the day takes nothing, and adds nothing
		{api.Shed{Light: []int{9, 3}, Dark: 9, Need: 12, Row: 2}, 1, 0, api.ErrNone}, {api.Shed{Light: []int{9, 3}, Dark: 8, Need: 12, Row: 2}, 1, 1, api.OK},
		{api.Shed{Light: []int{3, 3}, Dark: 9, Need: 7, Row: 2}, 1, 0, api.OK}, {api.Shed{Light: []int{9, 3}, Dark: 8, Need: 11, Row: 2}, 1, 0, api.ErrNone},
		// the days behind do not matter, those before do
		{api.Shed{Light: []int{9, 1440, 1440}, Need: 10, Row: 0}, 0, 0, api.OK}, {api.Shed{Light: []int{9, 9, 1440}, Need: 10, Row: 1}, 1, 1, api.OK},
		{api.Shed{Light: []int{9, 0, 0}, Need: 9, Row: 2}, 2, 1, api.OK}, {api.Shed{Light: []int{9, 0, 0}, Dark: 5, Need: 4, Row: 3}, 2, 0, api.ErrNone},
		// rows
		{full(0, 10001), 9, 0, api.OK}, {full(0, 10000), 9, 0, api.ErrNone}, {full(1, 7001), 9, 5, api.OK}, {full(1, 7000), 9, 0, api.ErrNone},
		{full(2, 5801), 9, 7, api.OK}, {full(2, 5800), 9, 0, api.ErrNone}, {full(9, 4601), 9, 9, api.OK}, {full(9, 4600), 9, 0, api.ErrNone},
		{full(10, 4001), 9, 10, api.OK}, {full(10, 4000), 9, 0, api.ErrNone}, {full(20, 8001), 19, 20, api.OK}, {full(20, 8000), 19, 0, api.ErrNone},
		{full(19, 8601), 19, 19, api.OK}, {full(19, 8600), 19, 0, api.ErrNone}, {full(3, 11001), 19, 15, api.OK}, {full(3, 11000), 19, 0, api.ErrNone},
		{full(20, 20000), 19, 1, api.OK}, {full(20, 19400), 19, 2, api.OK}, {full(20, 19401), 19, 1, api.OK}, {full(20, 20001), 19, 0, api.OK},
		// more days with less light, as those with the most follow each other
		{api.Shed{Light: []int{5, 9, 5}, Need: 11, Row: 1}, 2, 1, api.OK}, {api.Shed{Light: []int{5, 9, 5}, Need: 10, Row: 1}, 2, 2, api.OK},
		{api.Shed{Light: []int{5, 9, 5}, Need: 9, Row: 1}, 2, 0, api.ErrNone}, {api.Shed{Light: []int{5, 9, 9, 5}, Need: 15, Row: 1}, 3, 2, api.OK},
		{api.Shed{Light: []int{4, 9, 9, 4}, Need: 13, Row: 1}, 3, 0, api.ErrNone}, {api.Shed{Light: []int{4, 9, 9, 4}, Need: 9, Row: 2}, 3, 2, api.OK},
	} {
		expectFewest(t, i, c.s, c.day, c.want, c.e)
	}
	for day := range 3 {
		expectFewest(t, 60+day, dark(), day, 0, api.OK)
	}
}

// TestDarken: P10.9, with days of which there are just those.
func TestDarken(t *testing.T) {
	expectDarken(t, 0, dark(), 3)
	expectDarken(t, 1, changedShed(func(s *api.Shed) { s.Need = 3200 - 199 }), 4, 4)
	expectDarken(t, 2, changedShed(func(s *api.Shed) { s.Need = 3200 - 379 }), 4, 3, 4)
	expectDarken(t, 3, changedShed(func(s *api.Shed) { s.Need, s.Row = 3200-479, 1 }), 4, 0, 2, 4)
	expectDarken(t, 4, changedShed(func(s *api.Shed) { s.Need, s.Row = 3200-799, 5 }), 4, 0, 1, 2, 3, 4)
	expectDarken(t, 5, api.Shed{Light: []int{0, 9, 0}, Need: 1, Row: 1}, 2, 1)
	same := api.Shed{Light: slices.Repeat([]int{1000}, 20), Dark: 400, Need: 15000, Row: 3}
	first, _ := pairs.Darken(same, 19)
	for range 20 {
		expectDarken(t, 6, same, 19, first...)
	}
}

// TestMemory: P1 with R4, no argument is changed, and no result shares memory.
func TestMemory(t *testing.T) {
	// with memory behind the lists
	a := table(5, square(3)...)
	a.Matches = append(make([]api.Match, 0, 20), a.Matches...)
	slices.Reverse(a.Matches)
	s := api.Shed{Light: append(make([]int, 0, 9), 5, 6, 7), Need: 6, Row: 2}
	before, shedBefore := copied(a), slices.Clone(s.Light)
	unchanged := func(when string) {
		t.Helper()
		spare := slices.ContainsFunc(a.Matches[:20][9:], func(m api.Match) bool { return m != api.Match{} })
		if !reflect.DeepEqual(a, before) || spare || !slices.Equal(s.Light, shedBefore) || slices.Max(s.Light[:9][3:]) != 0 {
			t.Errorf("%s: an argument is changed: %v, %v", when, a, s)
		}
	}
	ask(a, 0, 3)
	askShed(s, 2)
	unchanged("after all questions")
	for i, call := range []func() []api.Match{
		func() []api.Match { l, _ := pairs.Pairs(a); return l }, func() []api.Match { l, _ := pairs.Plan(a); return l },
	} {
		expectNew(t, i, call, match(7, 7, 7))
		unchanged("after results of matches are")
	}
	for i, call := range []func() []int{
		func() []int { l, _, _ := pairs.Prices(a); return l }, func() []int { l, _ := pairs.Darken(s, 2); return l },
	} {
		expectNew(t, i, call, 77)
		unchanged("after results of numbers are")
	}
}

// expectNew checks that a result is another one if one before is changed.
func expectNew[T comparable](t *testing.T, i int, call func() []T, other T) {
	t.Helper()
	first := call()
	want := slices.Clone(first)
	for i := range first {
		first[i] = other
	}
	if again := call(); !slices.Equal(again, want) || len(want) < 2 {
		t.Errorf("%d: results share memory: %v", i, again)
	}
}
