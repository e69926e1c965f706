package liberate_test

import (
	"math"
	"reflect"
	"slices"
	"strconv"
	"testing"

	"squeaker/api"
	"squeaker/liberate"
)

func span(low, high int) api.Span { return api.Span{Low: low, High: high} }

func at(x, y int) api.Point { return api.Point{X: x, Y: y} }

func weather(wind, sight, heat api.Span) api.Sky {
	return api.Sky{Wind: wind, Sight: sight, Heat: heat}
}

func front(hours, x, y api.Span, sky api.Sky) api.Front {
	return api.Front{Hours: hours, X: x, Y: y, Sky: sky}
}

// all is everything from 0 to MaxSky.
func all() api.Span { return span(0, api.MaxSky) }

// example is the release R of the chapter.
func example() api.Release {
	return api.Release{
		Map:  api.Map{North: 1000, Columns: 4, East: []int{800, 700, 600}, Lofts: 2},
		Base: at(0, 0), Homes: []api.Point{at(3, 0), at(2, 2)}, Speed: span(400, 800),
		Fronts: []api.Front{
			front(span(0, 0), span(0, 3), span(0, 2), weather(span(0, 30), span(10, 50), span(0, 25))),
			front(span(1, 1), span(0, 3), span(0, 2), weather(span(10, 50), span(10, 50), span(0, 25))),
			front(span(1, 1), span(1, 1), span(0, 0), weather(span(45, 60), all(), all())),
		},
		Limits: api.Limits{Wind: 40, Sight: 8, Heat: 30}, Hours: 2, Dark: 110,
	}
}

// changed returns the example with something changed.
func changed(change func(r *api.Release)) api.Release {
	r := example()
	change(&r)
	return r
}

// told returns the example with some fronts alone.
func told(fronts ...api.Front) api.Release {
	return changed(func(r *api.Release) { r.Fronts = fronts })
}

// flight is a release on a map of ten rows and columns, a kilometre from each other, where nothing is outside the limits;
// there are from 1 to 2 kilometres in an hour.
func flight(base api.Point, homes ...api.Point) api.Release {
	return api.Release{
		Map:  api.Map{North: 1000, Columns: 10, East: slices.Repeat([]int{1000}, 10), Lofts: 1},
		Base: base, Homes: homes, Speed: span(1000/60, 2000/60), Limits: api.Limits{Wind: api.MaxSky, Heat: api.MaxSky},
		Hours: api.MaxSkyHours, Dark: api.MaxSkyTime,
	}
}

// row is a release on one row of ten columns, a metre from each other, to the last of them from the first one, in a minute
// from column to column; some hours and columns are too windy.
func row(hours int, windy ...api.Front) api.Release {
	return api.Release{
		Map:  api.Map{North: 1, Columns: 10, East: []int{1000}, Lofts: 1},
		Base: at(0, 0), Homes: []api.Point{at(9, 0)}, Speed: span(1000, 1000),
		Fronts: append([]api.Front{}, windy...), Limits: api.Limits{Wind: 999, Heat: 999}, Hours: hours, Dark: api.MaxSkyTime,
	}
}

// largest is as large as a release can be: its convoy is slower than anything.
func largest() api.Release {
	r := flight(at(0, 0), slices.Repeat([]api.Point{at(9, 9)}, api.MaxHomes)...)
	r.Map.North, r.Map.East = api.MaxScale, slices.Repeat([]int{api.MaxScale}, 10)
	r.Map.Lofts, r.Map.Wrong = api.MaxLofts, api.MaxWrong
	r.Map.Surveys = slices.Repeat([]api.Survey{{Kind: api.Tape, At: at(9, 9), Dist: span(0, api.MaxLength)}}, api.MaxSurveys)
	r.Fronts = slices.Repeat([]api.Front{front(span(0, 11), span(0, 9), span(0, 9), weather(all(), all(), all()))}, api.MaxFronts)
	r.Speed = span(1, 1)
	return r
}

// tooFarFrom returns numbers that are not within limits.
func tooFarFrom(low, high int) []int { return []int{low - 1, high + 1, math.MinInt, math.MaxInt} }

// A field is a number of a release, the limits of it, and how it is set.
type field struct {
	name      string
	low, high int
	set       func(r *api.Release, n int)
}

// fields returns all numbers of a release that have limits, but for its fronts.
func fields() []field {
	out := []field{
		{"column of Base", 0, 3, func(r *api.Release, n int) { r.Base.X = n }},
		{"row of Base", 0, 2, func(r *api.Release, n int) { r.Base.Y = n }},
		{"least Speed", 1, 800, func(r *api.Release, n int) { r.Speed.Low = n }},
		{"greatest Speed", 400, api.MaxSpeed, func(r *api.Release, n int) { r.Speed.High = n }},
		{"Wind", 0, api.MaxSky, func(r *api.Release, n int) { r.Limits.Wind = n }},
		{"Sight", 0, api.MaxSky, func(r *api.Release, n int) { r.Limits.Sight = n }},
		{"Heat", 0, api.MaxSky, func(r *api.Release, n int) { r.Limits.Heat = n }},
		{"Hours", 1, api.MaxSkyHours, func(r *api.Release, n int) { r.Hours, r.Fronts = n, nil }},
		{"Dark", 0, api.MaxSkyTime, func(r *api.Release, n int) { r.Dark = n }},
	}
	for i := range example().Homes {
		home := " of the home " + strconv.Itoa(i)
		out = append(out, field{"column" + home, 0, 3, func(r *api.Release, n int) { r.Homes[i].X = n }},
			field{"row" + home, 0, 2, func(r *api.Release, n int) { r.Homes[i].Y = n }})
	}
	return out
}

// frontFields returns all numbers of fronts that have limits. The front 2 of the example is the narrowest one.
func frontFields() []field {
	var out []field
	add := func(name string, last int, of func(f *api.Front) *api.Span) {
		for i, f := range example().Fronts {
			s := *of(&f)
			name := name + " of the front " + strconv.Itoa(i)
			out = append(out, field{"least " + name, 0, s.High, func(r *api.Release, n int) { of(&r.Fronts[i]).Low = n }},
				field{"greatest " + name, s.Low, last, func(r *api.Release, n int) { of(&r.Fronts[i]).High = n }})
		}
	}
	add("hour", 1, func(f *api.Front) *api.Span { return &f.Hours })
	add("column", 3, func(f *api.Front) *api.Span { return &f.X })
	add("row", 2, func(f *api.Front) *api.Span { return &f.Y })
	add("wind", api.MaxSky, func(f *api.Front) *api.Span { return &f.Sky.Wind })
	add("sight", api.MaxSky, func(f *api.Front) *api.Span { return &f.Sky.Sight })
	add("heat", api.MaxSky, func(f *api.Front) *api.Span { return &f.Sky.Heat })
	return out
}

// putTooFar adds releases each of which has one number that is not within its limits.
func putTooFar(out map[string]api.Release, fields []field) {
	for _, f := range fields {
		for _, n := range tooFarFrom(f.low, f.high) {
			out[f.name+" "+strconv.Itoa(n)] = changed(func(r *api.Release) { f.set(r, n) })
		}
	}
}

// invalid returns releases each of which breaks one rule, by what is broken.
func invalid() map[string]api.Release {
	out := map[string]api.Release{
		"nothing":            {},
		"no map":             changed(func(r *api.Release) { r.Map = api.Map{} }),
		"no rows":            changed(func(r *api.Release) { r.Map.East = nil }),
		"a row too few":      changed(func(r *api.Release) { r.Map.East, r.Fronts = r.Map.East[:2], nil }),
		"a column too few":   changed(func(r *api.Release) { r.Map.Columns, r.Fronts = 3, nil }),
		"no lofts":           changed(func(r *api.Release) { r.Map.Lofts = 0 }),
		"no way to the next": changed(func(r *api.Release) { r.Map.North = 0 }),
		"a survey of no loft": changed(func(r *api.Release) {
			r.Map.Surveys = []api.Survey{{Loft: 2, Kind: api.Box}}
		}),
		"a survey of no kind": changed(func(r *api.Release) { r.Map.Surveys = make([]api.Survey, 1) }),
		"a home too many":     changed(func(r *api.Release) { r.Homes = slices.Repeat(r.Homes[:1], api.MaxHomes+1) }),
		"a home outside":      changed(func(r *api.Release) { r.Homes = append(slices.Repeat(r.Homes[:1], 5), at(2, 3)) }),
		"no speed":            changed(func(r *api.Release) { r.Speed = api.Span{} }),
		"speeds exchanged":    changed(func(r *api.Release) { r.Speed = span(800, 400) }),
	}
	putTooFar(out, fields())
	return out
}

// badlyTold returns valid releases each of which has one front that is not valid, or too many of them.
func badlyTold() map[string]api.Release {
	out := map[string]api.Release{
		"a front too many":          changed(func(r *api.Release) { r.Fronts = slices.Repeat(r.Fronts[:1], api.MaxFronts+1) }),
		"an hour too few":           changed(func(r *api.Release) { r.Hours = 1 }),
		"the last one is too late":  changed(func(r *api.Release) { r.Fronts = append(slices.Repeat(r.Fronts[:1], 11), api.Front{Hours: span(2, 2)}) }),
		"none, and too far a wind":  told(api.Front{Sky: api.Sky{Wind: span(0, 1000)}}),
		"none, and too far a sight": told(api.Front{Sky: api.Sky{Sight: span(0, 1000)}}),
		"none, and too far a heat":  told(api.Front{Sky: api.Sky{Heat: span(0, 1000)}}),
	}
	putTooFar(out, frontFields())
	return out
}

// contradicting returns valid releases whose fronts contradict each other at one spot.
func contradicting() map[string]api.Release {
	out := map[string]api.Release{}
	for name, s := range map[string][2]api.Sky{
		"wind":       {weather(span(31, 40), all(), all()), weather(span(41, 50), all(), all())},
		"sight":      {weather(all(), span(41, 50), all()), weather(all(), span(31, 40), all())},
		"heat":       {weather(all(), all(), span(0, 0)), weather(all(), all(), span(1, 999))},
		"everything": {weather(span(0, 0), span(0, 0), span(0, 0)), weather(span(9, 9), span(9, 9), span(9, 9))},
	} {
		for where, p := range map[string]api.Point{"Base": at(0, 0), "a way": at(1, 1), "a place of no way": at(3, 2)} {
			wide := front(span(0, 1), span(0, 3), span(0, 2), s[0])
			narrow := front(span(1, 1), span(p.X, p.X), span(p.Y, p.Y), s[1])
			out[name+" at "+where] = told(wide, narrow)
			out[name+" at "+where+", the other way round"] = told(narrow, front(span(1, 1), span(p.X, 3), span(0, p.Y), s[0]))
			out[name+" at "+where+" in the hour 0"] = told(wide, front(span(0, 0), narrow.X, narrow.Y, s[1]))
		}
	}
	out["of three, no two"] = told(front(span(0, 0), span(0, 1), span(0, 0), weather(span(0, 10), all(), all())),
		front(span(0, 0), span(1, 2), span(0, 0), weather(span(5, 20), all(), all())), front(span(0, 0), span(1, 1), span(0, 0), weather(span(11, 30), all(), all())))
	return out
}

// An outcome is what a function returned, without its error, and the error.
type outcome struct {
	result any
	e      api.Errno
}

// A question is all that the functions ask beside the release.
type question struct {
	home, minute int
	place        api.Point
	hour         int
	from, to     int
}

// ask calls each function of a release.
func ask(r api.Release, q question) map[string]outcome {
	out := map[string]outcome{"Check": {nil, liberate.Check(r)}}
	put := func(name string, result any, e api.Errno) { out[name] = outcome{tidy(result), e} }
	way, e := liberate.Way(r, q.home)
	put("Way", way, e)
	passes, e := liberate.Passes(r, q.home, q.minute)
	put("Passes", passes, e)
	sky, e := liberate.Weather(r, q.place, q.hour)
	put("Weather", sky, e)
	safe, e := liberate.Safe(r, q.home, q.minute)
	put("Safe", safe, e)
	blocks, e := liberate.Blocks(r, q.minute)
	put("Blocks", blocks, e)
	first, e := liberate.First(r, q.from, q.to)
	put("First", first, e)
	return out
}

// tidy returns a result, but nil for an empty slice, which is the same.
func tidy(result any) any {
	v := reflect.ValueOf(result)
	if v.Kind() == reflect.Slice && v.Len() == 0 {
		return reflect.Zero(v.Type()).Interface()
	}
	return result
}

// expectErrors checks the errors of all functions: others, but for those that are named; and the zero values.
func expectErrors(t *testing.T, name string, got map[string]outcome, others api.Errno, named map[string]api.Errno) {
	t.Helper()
	for function, o := range got {
		want, ok := named[function]
		if !ok {
			want = others
		}
		if o.e != want {
			t.Errorf("%s: %s has the error %d, not %d", name, function, o.e, want)
		}
		if o.e != api.OK && o.result != nil && !reflect.ValueOf(o.result).IsZero() {
			t.Errorf("%s: %s returns %v with an error", name, function, o.result)
		}
	}
}

// each returns an error for some functions.
func each(e api.Errno, functions ...string) map[string]api.Errno {
	out := map[string]api.Errno{}
	for _, function := range functions {
		out[function] = e
	}
	return out
}

// A wrongQuestion is one in which something is not as described, and the functions that ask for it.
type wrongQuestion struct {
	question
	functions []string
}

// wrongQuestions returns wrong questions to releases with the map of the example, two homes and two hours.
func wrongQuestions() []wrongQuestion {
	var out []wrongQuestion
	add := func(change func(q *question), functions ...string) {
		q := question{home: 1, minute: 9, place: at(3, 2), hour: 1, from: 0, to: 9}
		change(&q)
		out = append(out, wrongQuestion{q, functions})
	}
	for _, n := range tooFarFrom(0, 1) {
		add(func(q *question) { q.home = n }, "Way", "Passes", "Safe")
		add(func(q *question) { q.hour = n }, "Weather")
	}
	for _, n := range tooFarFrom(0, api.MaxSkyTime) {
		add(func(q *question) { q.minute = n }, "Passes", "Safe", "Blocks")
		add(func(q *question) { q.from = n }, "First")
		add(func(q *question) { q.to = n }, "First")
	}
	for _, n := range tooFarFrom(0, 3) {
		add(func(q *question) { q.place.X = n }, "Weather")
	}
	for _, n := range tooFarFrom(0, 2) {
		add(func(q *question) { q.place.Y = n }, "Weather")
	}
	add(func(q *question) { q.from, q.to = -5, -9 }, "First")
	return out
}

// TestErrors: P1, with the errors in their order and zero values beside them.
func TestErrors(t *testing.T) {
	questions := append(wrongQuestions(), wrongQuestion{question{to: 9}, nil}, wrongQuestion{question{home: 1, place: at(3, 2), hour: 1}, nil})
	for _, q := range questions {
		for name, r := range invalid() {
			expectErrors(t, name, ask(r, q.question), api.ErrRelease, nil)
		}
		for name, r := range badlyTold() {
			expectErrors(t, name, ask(r, q.question), api.ErrFront, nil)
		}
		for name, r := range contradicting() {
			errors := each(api.ErrArg, q.functions...)
			for _, function := range []string{"Check", "Way", "Passes"} {
				if _, wrong := errors[function]; !wrong {
					errors[function] = api.OK
				}
			}
			expectErrors(t, name, ask(r, q.question), api.ErrNone, errors)
		}
		expectErrors(t, "example", ask(example(), q.question), api.OK, each(api.ErrArg, q.functions...))
	}
}

// TestManyErrors: P1, releases that are not valid, nor their fronts.
func TestManyErrors(t *testing.T) {
	q := question{home: -1, minute: -1, place: at(-1, -1), hour: -1, from: -1, to: -1}
	for name, r := range badlyTold() {
		r.Dark = -1
		expectErrors(t, name, ask(r, q), api.ErrRelease, nil)
	}
	for name, r := range invalid() {
		r.Fronts = make([]api.Front, api.MaxFronts+1)
		expectErrors(t, name, ask(r, q), api.ErrRelease, nil)
	}
	for name, r := range contradicting() {
		r.Fronts = append(r.Fronts, api.Front{Hours: span(0, 2)})
		expectErrors(t, name, ask(r, q), api.ErrFront, nil)
	}
	none := changed(func(r *api.Release) { r.Homes = nil })
	expectErrors(t, "no homes", ask(none, question{}), api.OK, each(api.ErrArg, "Way", "Passes", "Safe"))
}

// TestCheck: P6.1.
func TestCheck(t *testing.T) {
	for name, r := range invalid() {
		if e := liberate.Check(r); e != api.ErrRelease {
			t.Errorf("%s: Check = %d", name, e)
		}
	}
	for name, r := range badlyTold() {
		if e := liberate.Check(r); e != api.ErrFront {
			t.Errorf("%s: Check = %d", name, e)
		}
	}
	for name, r := range contradicting() {
		if e := liberate.Check(r); e != api.OK {
			t.Errorf("%s: Check = %d", name, e)
		}
	}
	for i, r := range []api.Release{
		example(), largest(), flight(at(9, 9)), row(1), row(12), told(), changed(func(r *api.Release) { r.Homes = nil }),
		changed(func(r *api.Release) { r.Homes = slices.Repeat([]api.Point{at(0, 0)}, api.MaxHomes) }),
		changed(func(r *api.Release) { r.Fronts = slices.Repeat(r.Fronts, api.MaxFronts/3) }),
		// that a map has no truth does not matter
		changed(func(r *api.Release) {
			r.Map.Surveys = []api.Survey{{Kind: api.Box}, {Kind: api.Box, X: span(1, 1)}}
		}),
		{Map: api.Map{North: 1, Columns: 1, East: []int{1}, Lofts: 1}, Homes: []api.Point{}, Speed: span(1, 1), Fronts: []api.Front{}, Hours: 1},
	} {
		if e := liberate.Check(r); e != api.OK {
			t.Errorf("%d: Check = %d", i, e)
		}
	}
}

// TestLimits: P6.1, a number that is still within its limits does not make a release invalid.
func TestLimits(t *testing.T) {
	for _, f := range append(fields(), frontFields()...) {
		for _, n := range []int{f.low, f.high} {
			r := changed(func(r *api.Release) { f.set(r, n) })
			if e := liberate.Check(r); e != api.OK {
				t.Errorf("%s %d: Check = %d", f.name, n, e)
			}
		}
	}
}

// TestWay: P6.2.
func TestWay(t *testing.T) {
	for i, c := range []struct {
		from, to api.Point
		want     []api.Point
	}{
		{at(4, 4), at(4, 4), []api.Point{at(4, 4)}},
		{at(4, 4), at(5, 4), []api.Point{at(4, 4), at(5, 4)}}, {at(4, 4), at(3, 5), []api.Point{at(4, 4), at(3, 5)}},
		{at(4, 4), at(4, 1), []api.Point{at(4, 4), at(4, 3), at(4, 2), at(4, 1)}}, {at(6, 0), at(3, 0), []api.Point{at(6, 0), at(5, 0), at(4, 0), at(3, 0)}},
		{at(9, 9), at(6, 6), []api.Point{at(9, 9), at(8, 8), at(7, 7), at(6, 6)}}, {at(2, 5), at(4, 3), []api.Point{at(2, 5), at(3, 4), at(4, 3)}},
		// halves go to the greater column or row, from wherever birds come
		{at(4, 4), at(5, 6), []api.Point{at(4, 4), at(5, 5), at(5, 6)}}, {at(5, 6), at(4, 4), []api.Point{at(5, 6), at(5, 5), at(4, 4)}},
		{at(4, 4), at(3, 6), []api.Point{at(4, 4), at(4, 5), at(3, 6)}}, {at(3, 6), at(4, 4), []api.Point{at(3, 6), at(4, 5), at(4, 4)}},
		{at(4, 4), at(6, 5), []api.Point{at(4, 4), at(5, 5), at(6, 5)}}, {at(6, 5), at(4, 4), []api.Point{at(6, 5), at(5, 5), at(4, 4)}},
		{at(4, 4), at(6, 3), []api.Point{at(4, 4), at(5, 4), at(6, 3)}}, {at(1, 0), at(0, 2), []api.Point{at(1, 0), at(1, 1), at(0, 2)}},
		{at(0, 1), at(2, 0), []api.Point{at(0, 1), at(1, 1), at(2, 0)}}, {at(0, 3), at(6, 0), []api.Point{at(0, 3), at(1, 3), at(2, 2), at(3, 2), at(4, 1), at(5, 1), at(6, 0)}},
		// thirds, and less than halves
		{at(0, 0), at(3, 1), []api.Point{at(0, 0), at(1, 0), at(2, 1), at(3, 1)}}, {at(3, 1), at(0, 0), []api.Point{at(3, 1), at(2, 1), at(1, 0), at(0, 0)}},
		{at(1, 9), at(0, 6), []api.Point{at(1, 9), at(1, 8), at(0, 7), at(0, 6)}},
		{at(0, 0), at(9, 4), []api.Point{at(0, 0), at(1, 0), at(2, 1), at(3, 1), at(4, 2), at(5, 2), at(6, 3), at(7, 3), at(8, 4), at(9, 4)}},
		{at(9, 9), at(4, 0), []api.Point{at(9, 9), at(8, 8), at(8, 7), at(7, 6), at(7, 5), at(6, 4), at(6, 3), at(5, 2), at(5, 1), at(4, 0)}},
	} {
		if l, e := liberate.Way(flight(c.from, c.to), 0); !slices.Equal(l, c.want) || e != api.OK {
			t.Errorf("%d: Way = %v, %d, not %v", i, l, e, c.want)
		}
		if l, e := liberate.Way(flight(c.from, at(0, 9), c.from, c.to), 2); !slices.Equal(l, c.want) || e != api.OK {
			t.Errorf("%d: Way to the home 2 = %v, %d, not %v", i, l, e, c.want)
		}
	}
	for home, want := range [][]api.Point{{at(0, 0), at(1, 0), at(2, 0), at(3, 0)}, {at(0, 0), at(1, 1), at(2, 2)}} {
		if l, e := liberate.Way(example(), home); !slices.Equal(l, want) || e != api.OK {
			t.Errorf("example: Way to %d = %v, %d, not %v", home, l, e, want)
		}
	}
}

// TestPasses: P6.3.
func TestPasses(t *testing.T) {
	at33 := flight(at(0, 0), at(0, 3))
	at33.Speed = span(300, 700)
	// each step of 1414 millimetres and some more is rounded down
	diagonal := flight(at(0, 0), at(5, 5))
	diagonal.Speed = span(1414, 1414)
	slow := flight(at(2, 2), at(2, 2), at(3, 2))
	slow.Speed = span(1, 1)
	fast := flight(at(2, 2), at(2, 2), at(3, 2), at(0, 2))
	fast.Speed = span(api.MaxSpeed, api.MaxSpeed)
	wide := flight(at(9, 0), at(8, 0))
	wide.Speed = span(1, api.MaxSpeed)
	far := largest()
	for i, c := range []struct {
		r            api.Release
		home, minute int
		want         []api.Span
	}{
		{example(), 0, 10, []api.Span{span(10, 12), span(11, 14), span(12, 16), span(13, 16)}}, {example(), 1, 10, []api.Span{span(10, 14), span(11, 17), span(13, 17)}},
		{example(), 0, 0, []api.Span{span(0, 2), span(1, 4), span(2, 6), span(3, 6)}}, {example(), 1, 9999, []api.Span{span(9999, 10003), span(10000, 10006), span(10002, 10006)}},
		{at33, 0, 5, []api.Span{span(5, 9), span(6, 12), span(7, 15), span(9, 15)}},
		{diagonal, 0, 0, []api.Span{span(0, 1), span(1, 2), span(2, 3), span(3, 4), span(4, 5), span(5, 5)}},
		{slow, 0, 7, []api.Span{span(7, 7)}}, {slow, 1, 7, []api.Span{span(7, 1007), span(1007, 1007)}},
		{fast, 0, 7, []api.Span{span(7, 7)}}, {fast, 1, 7, []api.Span{span(7, 8), span(7, 8)}}, {fast, 2, 7, []api.Span{span(7, 8), span(7, 8), span(7, 8)}},
		{wide, 0, 0, []api.Span{span(0, 1000), span(0, 1000)}},
	} {
		if l, e := liberate.Passes(c.r, c.home, c.minute); !slices.Equal(l, c.want) || e != api.OK {
			t.Errorf("%d: Passes = %v, %d, not %v", i, l, e, c.want)
		}
	}
	// a step of 2 ** 1.5 million millimetres
	const step = 2828427
	l, e := liberate.Passes(far, 5, api.MaxSkyTime)
	for k, s := range l {
		if want := span(api.MaxSkyTime+step*k, api.MaxSkyTime+step*min(k+1, 9)); s != want {
			t.Errorf("the largest release: %d: %v, not %v", k, s, want)
		}
	}
	if len(l) != 10 || e != api.OK {
		t.Errorf("the largest release: Passes = %v, %d", l, e)
	}
}

// TestWeather: P6.4.
func TestWeather(t *testing.T) {
	windy := weather(span(10, 50), span(10, 50), span(0, 25))
	spot := front(span(1, 1), span(1, 2), span(1, 1), weather(span(5, 20), span(6, 40), span(7, 30)))
	other := front(span(0, 1), span(2, 3), span(0, 1), weather(span(20, 60), span(2, 20), span(8, 8)))
	both := told(spot, other)
	three := told(spot, front(span(1, 1), span(1, 1), span(1, 1), weather(span(0, 10), span(0, 999), span(10, 999))),
		front(span(1, 1), span(1, 1), span(1, 1), weather(span(8, 999), span(30, 31), span(20, 29))))
	last := row(12, front(span(11, 11), span(9, 9), span(0, 0), windy))
	for i, c := range []struct {
		r     api.Release
		place api.Point
		hour  int
		want  api.Sky
	}{
		{example(), at(1, 0), 1, weather(span(45, 50), span(10, 50), span(0, 25))}, {example(), at(0, 0), 1, windy}, {example(), at(2, 0), 1, windy},
		{example(), at(1, 1), 1, windy}, {example(), at(1, 0), 0, weather(span(0, 30), span(10, 50), span(0, 25))}, {example(), at(3, 2), 1, windy},
		{told(), at(3, 2), 1, weather(all(), all(), all())}, {told(), at(0, 0), 0, weather(all(), all(), all())},
		// the ends of its hours, columns and rows
		{both, at(1, 1), 1, spot.Sky}, {both, at(1, 1), 0, weather(all(), all(), all())}, {both, at(0, 1), 1, weather(all(), all(), all())},
		{both, at(1, 0), 1, weather(all(), all(), all())}, {both, at(1, 2), 1, weather(all(), all(), all())}, {both, at(2, 1), 1, weather(span(20, 20), span(6, 20), span(8, 8))},
		{both, at(2, 1), 0, other.Sky}, {both, at(3, 1), 1, other.Sky}, {both, at(3, 0), 0, other.Sky}, {both, at(3, 2), 0, weather(all(), all(), all())},
		{three, at(1, 1), 1, weather(span(8, 10), span(30, 31), span(20, 29))}, {three, at(2, 1), 1, spot.Sky},
		{told(api.Front{}), at(0, 0), 0, api.Sky{}}, {told(api.Front{}), at(0, 0), 1, weather(all(), all(), all())},
		{last, at(9, 0), 11, windy}, {last, at(9, 0), 10, weather(all(), all(), all())}, {last, at(8, 0), 11, weather(all(), all(), all())},
		{largest(), at(9, 9), 11, weather(all(), all(), all())},
	} {
		if s, e := liberate.Weather(c.r, c.place, c.hour); s != c.want || e != api.OK {
			t.Errorf("%d: Weather = %v, %d, not %v", i, s, e, c.want)
		}
	}
}

// bound returns the example with a home at Base, one hour, of which some weather is known, and some limits.
func bound(sky api.Sky, limits api.Limits) api.Release {
	return changed(func(r *api.Release) {
		r.Homes, r.Hours, r.Limits = []api.Point{r.Base}, 1, limits
		r.Fronts = []api.Front{front(span(0, 0), span(0, 0), span(0, 0), sky)}
	})
}

// TestLimitsOfWeather: P6.5, weather that is just inside the limits, and just outside.
func TestLimitsOfWeather(t *testing.T) {
	limits := api.Limits{Wind: 40, Sight: 8, Heat: 30}
	calm := weather(span(0, 40), span(8, 999), span(0, 30))
	for i, c := range []struct {
		sky    api.Sky
		limits api.Limits
		want   int
	}{
		{calm, limits, api.SurelyInside}, {weather(span(40, 40), span(8, 8), span(30, 30)), limits, api.SurelyInside},
		{weather(span(0, 41), calm.Sight, calm.Heat), limits, api.OpenSky}, {weather(span(40, 41), calm.Sight, calm.Heat), limits, api.OpenSky}, {weather(span(41, 41), calm.Sight, calm.Heat), limits, api.SurelyOutside},
		{weather(calm.Wind, span(7, 999), calm.Heat), limits, api.OpenSky}, {weather(calm.Wind, span(7, 8), calm.Heat), limits, api.OpenSky}, {weather(calm.Wind, span(0, 7), calm.Heat), limits, api.SurelyOutside},
		{weather(calm.Wind, calm.Sight, span(0, 31)), limits, api.OpenSky}, {weather(calm.Wind, calm.Sight, span(30, 31)), limits, api.OpenSky}, {weather(calm.Wind, calm.Sight, span(31, 999)), limits, api.SurelyOutside},
		// each number can be outside, but none surely is
		{weather(span(40, 41), span(7, 8), span(30, 31)), limits, api.OpenSky}, {weather(span(41, 999), span(7, 8), span(30, 31)), limits, api.SurelyOutside},
		{weather(span(41, 41), span(7, 7), span(31, 31)), limits, api.SurelyOutside}, {weather(all(), all(), span(31, 31)), limits, api.SurelyOutside}, {weather(all(), span(0, 7), all()), limits, api.SurelyOutside},
		{weather(all(), all(), all()), limits, api.OpenSky}, {weather(all(), all(), all()), api.Limits{Wind: 999, Heat: 999}, api.SurelyInside},
		{weather(all(), all(), all()), api.Limits{Wind: 998, Heat: 999}, api.OpenSky}, {weather(all(), all(), all()), api.Limits{Wind: 999, Sight: 1, Heat: 999}, api.OpenSky}, {weather(all(), all(), all()), api.Limits{Wind: 999, Heat: 998}, api.OpenSky},
		{weather(all(), all(), all()), api.Limits{Sight: 999}, api.OpenSky}, {weather(span(0, 0), span(999, 999), span(0, 0)), api.Limits{Sight: 999}, api.SurelyInside},
		{weather(span(1, 1), span(999, 999), span(0, 0)), api.Limits{Sight: 999}, api.SurelyOutside},
	} {
		r := bound(c.sky, c.limits)
		if n, e := liberate.Safe(r, 0, 59); n != c.want || e != api.OK {
			t.Errorf("%d: Safe = %d, %d, not %d", i, n, e, c.want)
		}
		blocks, e := liberate.Blocks(r, 59)
		if want := []api.Block{{Minute: 59}}; slices.Equal(blocks, want) != (c.want != api.SurelyInside) || len(blocks) > 1 || e != api.OK {
			t.Errorf("%d: Blocks = %v, %d", i, blocks, e)
		}
	}
}

// storm is a wind above the limit of a release of row in some hours and columns.
func storm(hours, columns api.Span) api.Front {
	return front(hours, columns, span(0, 0), weather(span(500, 600), all(), all()))
}

// calm is what is known of a wind in a release of row.
func calm(hours, columns api.Span) api.Front {
	return front(hours, columns, span(0, 0), weather(span(0, 400), all(), all()))
}

// windy returns a release of row, in which the wind may be from 0 to 450.
func windy(hours int, fronts ...api.Front) api.Release {
	r := row(hours, fronts...)
	r.Limits.Wind = 450
	return r
}

// A flown is a release with a minute, what Safe says of its homes then, and the blocks.
type flown struct {
	r      api.Release
	minute int
	safe   []int
	blocks []api.Block
}

// flights returns what is to be in examples and edge cases.
func flights() []flown {
	in, out, open := []int{api.SurelyInside}, []int{api.SurelyOutside}, []int{api.OpenSky}
	block := func(step, minute int) []api.Block { return []api.Block{{Step: step, Minute: minute}} }
	// from 9 minutes before an hour birds can be at two places of the row at once, as the minutes of both ends count
	still := windy(2, calm(span(0, 1), span(0, 9)))
	step3 := windy(2, calm(span(0, 1), span(0, 2)), calm(span(0, 1), span(4, 9)), storm(span(1, 1), span(3, 3)), calm(span(0, 0), span(3, 3)))
	mixed := windy(2, storm(span(0, 0), span(0, 0)), front(span(1, 1), span(0, 0), span(0, 0), weather(all(), all(), span(999, 999))), calm(span(0, 1), span(1, 9)))
	mixed.Limits.Heat = 998
	home := windy(1, calm(span(0, 0), span(0, 8)), storm(span(0, 0), span(9, 9)))
	at0 := windy(2, calm(span(0, 1), span(1, 9)))
	slow := windy(2, calm(span(0, 1), span(0, 9)))
	slow.Speed = span(1, 1)
	lax := row(1)
	lax.Speed = span(1, 1)
	return []flown{
		{example(), 10, []int{api.SurelyInside, api.SurelyInside}, nil},
		{example(), 57, []int{api.OpenSky, api.OpenSky}, []api.Block{{Home: 0, Step: 1, Minute: 60}, {Home: 1, Step: 0, Minute: 60}}},
		{example(), 60, []int{api.SurelyOutside, api.OpenSky}, []api.Block{{Home: 0, Step: 0, Minute: 60}, {Home: 1, Step: 0, Minute: 60}}},
		{example(), 52, []int{api.SurelyInside, api.SurelyInside}, nil}, {example(), 53, []int{api.SurelyInside, api.OpenSky}, []api.Block{{Home: 1, Step: 1, Minute: 60}}},
		{example(), 54, []int{api.OpenSky, api.OpenSky}, []api.Block{{Home: 0, Step: 2, Minute: 60}, {Home: 1, Step: 1, Minute: 60}}},
		{example(), 58, []int{api.OpenSky, api.OpenSky}, []api.Block{{Home: 0, Step: 0, Minute: 60}, {Home: 1, Step: 0, Minute: 60}}},
		{example(), 59, []int{api.SurelyOutside, api.OpenSky}, []api.Block{{Home: 0, Step: 0, Minute: 60}, {Home: 1, Step: 0, Minute: 60}}},
		{example(), 118, []int{api.OpenSky, api.OpenSky}, []api.Block{{Home: 0, Step: 0, Minute: 118}, {Home: 1, Step: 0, Minute: 118}}},
		// nothing is known any more
		{example(), 120, []int{api.OpenSky, api.OpenSky}, []api.Block{{Home: 0, Step: 0, Minute: 120}, {Home: 1, Step: 0, Minute: 120}}},
		{example(), 9999, []int{api.OpenSky, api.OpenSky}, []api.Block{{Home: 0, Step: 0, Minute: 9999}, {Home: 1, Step: 0, Minute: 9999}}},
		{still, 0, in, nil}, {still, 110, in, nil}, {still, 111, open, block(8, 120)}, {still, 115, open, block(4, 120)}, {still, 119, open, block(0, 120)}, {still, 120, open, block(0, 120)}, {still, 130, open, block(0, 130)},
		{row(2), 0, in, nil}, {row(2), 115, in, nil}, {row(2), 9999, in, nil}, {windy(2), 0, open, block(0, 0)},
		// at a place in one hour: in which minutes birds can be there
		{step3, 0, in, nil}, {step3, 55, in, nil}, {step3, 56, open, block(3, 60)}, {step3, 57, out, block(3, 60)}, {step3, 58, out, block(3, 61)}, {step3, 70, out, block(3, 73)}, {step3, 110, out, block(3, 113)},
		// outside in one hour by the wind, in another one by the heat
		{mixed, 0, out, block(0, 0)}, {mixed, 59, out, block(0, 59)}, {mixed, 60, out, block(0, 60)}, {mixed, 119, open, block(0, 119)},
		// the last place, and the first one
		{home, 0, out, block(9, 9)}, {home, 50, out, block(9, 59)}, {home, 51, open, block(8, 60)}, {at0, 0, open, block(0, 0)},
		// it takes 9000 minutes, the most of them after the last hour, or all hours there are
		{slow, 0, open, block(0, 120)}, {slow, 119, open, block(0, 120)}, {lax, 0, in, nil}, {lax, 9999, in, nil},
		{largest(), 0, slices.Repeat(in, 6), nil}, {flight(at(1, 1)), 5, nil, nil},
	}
}

// TestSafe: P6.5.
func TestSafe(t *testing.T) {
	for i, c := range flights() {
		for home, want := range c.safe {
			if n, e := liberate.Safe(c.r, home, c.minute); n != want || e != api.OK {
				t.Errorf("%d: Safe to %d from %d = %d, %d, not %d", i, home, c.minute, n, e, want)
			}
		}
	}
}

// TestBlocks: P6.6.
func TestBlocks(t *testing.T) {
	for i, c := range flights() {
		if l, e := liberate.Blocks(c.r, c.minute); !slices.Equal(l, c.blocks) || e != api.OK {
			t.Errorf("%d: Blocks at %d = %v, %d, not %v", i, c.minute, l, e, c.blocks)
		}
	}
	// homes in their order, each by its own number
	r := windy(1, calm(span(0, 0), span(0, 5)), storm(span(0, 0), span(6, 9)))
	r.Homes = []api.Point{at(7, 0), at(2, 0), at(6, 0), at(5, 0), at(7, 0), at(0, 0)}
	want := []api.Block{{Home: 0, Step: 6, Minute: 16}, {Home: 2, Step: 6, Minute: 16}, {Home: 4, Step: 6, Minute: 16}}
	if l, e := liberate.Blocks(r, 10); !slices.Equal(l, want) || e != api.OK {
		t.Errorf("Blocks = %v, %d, not %v", l, e, want)
	}
}

// TestFirst: P6.7.
func TestFirst(t *testing.T) {
	dark := func(minute int) api.Release { return changed(func(r *api.Release) { r.Dark = minute }) }
	later := windy(3, storm(span(0, 0), span(5, 5)), calm(span(1, 1), span(0, 9)), calm(span(0, 0), span(0, 4)), calm(span(0, 0), span(6, 9)))
	near := later
	near.Homes = []api.Point{at(4, 0)}
	several := later
	several.Homes = []api.Point{at(0, 0), at(4, 0), at(9, 0), at(4, 0)}
	alone := flight(at(1, 1))
	alone.Dark = 0
	stay := flight(at(1, 1), at(1, 1))
	stay.Dark = 77
	for i, c := range []struct {
		r              api.Release
		from, to, want int
	}{
		{example(), 0, 119, 0}, {example(), 0, 0, 0}, {example(), 52, 9999, 52}, {example(), 7, 7, 7}, {example(), 53, 119, -1}, {example(), 60, 119, -1}, {example(), 120, 9999, -1},
		// the last minute on the way to the home 1 is 7 minutes later, and it may be dark then
		{dark(7), 0, 119, 0}, {dark(6), 0, 119, -1}, {dark(0), 0, 119, -1}, {dark(20), 13, 119, 13}, {dark(20), 14, 119, -1}, {dark(59), 52, 60, 52}, {dark(58), 52, 60, -1},
		// from the minute on at which the place 5 is passed in the hour 1
		{later, 0, 200, 55}, {later, 0, 55, 55}, {later, 0, 54, -1}, {later, 54, 56, 55}, {later, 56, 200, 56}, {later, 110, 200, 110}, {later, 111, 200, -1}, {near, 0, 200, 0}, {near, 56, 57, 56}, {near, 116, 9999, -1}, {several, 0, 200, 55},
		// it gets dark 9 minutes after the last one
		{row(1), 0, 9999, 0}, {row(1), 9990, 9999, 9990}, {row(1), 9991, 9999, -1}, {row(1), 9999, 9999, -1},
		// no minute, no home
		{row(1), 1, 0, -1}, {row(1), 9999, 0, -1}, {alone, 0, 9, 0}, {alone, 9999, 9999, 9999}, {alone, 2, 1, -1}, {stay, 70, 90, 70}, {stay, 77, 90, 77}, {stay, 78, 90, -1},
		{largest(), 0, 9999, -1},
	} {
		n, e := liberate.First(c.r, c.from, c.to)
		if want := max(0, c.want); n != want || (e == api.OK) != (c.want >= 0) || e != api.OK && e != api.ErrNone {
			t.Errorf("%d: First from %d to %d = %d, %d, not %d", i, c.from, c.to, n, e, c.want)
		}
	}
}

// TestMinute: P6.8.
func TestMinute(t *testing.T) {
	three := []api.Span{span(5, 9), span(8, 12), span(20, 30)}
	apart := []api.Span{span(100, 200), span(1, 2), span(50, 150), span(1, 1)}
	for i, c := range []struct {
		l     []api.Span
		wrong int
		want  api.Span
	}{
		{three, 1, span(8, 9)}, {three, 2, span(5, 30)}, {three, 3, span(0, 9999)}, {three, 8, span(0, 9999)},
		{three[:2], 0, span(8, 9)}, {three[:2], 1, span(5, 12)}, {three[2:], 0, span(20, 30)}, {three[2:], 1, span(0, 9999)}, {[]api.Span{three[2], three[1], three[0]}, 1, span(8, 9)},
		// equal watches are several, and there can be minutes between that are none
		{apart, 2, span(1, 150)}, {apart, 3, span(1, 200)}, {[]api.Span{span(3, 3), span(3, 3), span(7, 7)}, 1, span(3, 3)}, {[]api.Span{span(3, 3), span(9, 9), span(7, 7), span(7, 7)}, 2, span(7, 7)},
		{[]api.Span{span(3, 3), span(3, 3), span(9, 9), span(9, 9), span(6, 6)}, 3, span(3, 9)},
		// the ends, and all watches there can be
		{[]api.Span{span(0, 0)}, 0, span(0, 0)}, {[]api.Span{span(9999, 9999)}, 0, span(9999, 9999)}, {[]api.Span{span(0, 9999)}, 0, span(0, 9999)}, {[]api.Span{span(4, 5), span(5, 6)}, 0, span(5, 5)},
		{slices.Repeat([]api.Span{span(4, 5)}, 8), 0, span(4, 5)}, {slices.Repeat([]api.Span{span(4, 5)}, 8), 7, span(4, 5)}, {slices.Repeat([]api.Span{span(4, 5)}, 8), 8, span(0, 9999)},
		{[]api.Span{span(0, 0), span(9999, 9999)}, 1, span(0, 9999)},
	} {
		if s, e := liberate.Minute(c.l, c.wrong); s != c.want || e != api.OK {
			t.Errorf("%d: Minute = %v, %d, not %v", i, s, e, c.want)
		}
	}
	for i, c := range []struct {
		l     []api.Span
		wrong int
		e     api.Errno
	}{
		{three, 0, api.ErrNone}, {apart, 0, api.ErrNone}, {apart, 1, api.ErrNone}, {[]api.Span{span(4, 5), span(6, 7)}, 0, api.ErrNone}, {[]api.Span{span(0, 0), span(9999, 9999)}, 0, api.ErrNone},
		{nil, 0, api.ErrWatch}, {[]api.Span{}, 1, api.ErrWatch}, {slices.Repeat(three[:1], 9), 0, api.ErrWatch}, {three, -1, api.ErrWatch}, {three, 9, api.ErrWatch}, {three, math.MinInt, api.ErrWatch}, {three, math.MaxInt, api.ErrWatch},
		{[]api.Span{span(-1, 5)}, 0, api.ErrWatch}, {[]api.Span{span(5, 10000)}, 0, api.ErrWatch}, {[]api.Span{span(6, 5)}, 0, api.ErrWatch}, {[]api.Span{span(6, 5)}, 8, api.ErrWatch}, {[]api.Span{span(-2, -1)}, 0, api.ErrWatch},
		{[]api.Span{span(10000, 10000)}, 1, api.ErrWatch}, {append(slices.Clone(three), span(math.MinInt, math.MaxInt)), 1, api.ErrWatch}, {append([]api.Span{span(0, 10000)}, three...), 1, api.ErrWatch},
		{append(slices.Clone(three), span(math.MaxInt, math.MinInt)), 1, api.ErrWatch},
	} {
		if s, e := liberate.Minute(c.l, c.wrong); s != span(0, 0) || e != c.e {
			t.Errorf("%d: Minute = %v, %d, not %d", i, s, e, c.e)
		}
	}
}

// TestMemory: P1 with R4, no argument is changed, and no result shares memory.
func TestMemory(t *testing.T) {
	whole := changed(func(r *api.Release) {
		r.Fronts = append(r.Fronts, r.Fronts[0])
		slices.Reverse(r.Fronts)
		r.Homes = append(r.Homes, at(9, 9), at(8, 8))
		r.Map.Surveys = []api.Survey{{Kind: api.Box, X: span(1, 1)}, {Kind: api.Box}}
		r.Map.East = append(r.Map.East, -1, -2)
	})
	// with memory behind what is there
	r := whole
	r.Fronts, r.Homes, r.Map.East = r.Fronts[:3], r.Homes[:2], r.Map.East[:3]
	before := whole
	before.Fronts, before.Homes, before.Map.East, before.Map.Surveys = slices.Clone(whole.Fronts), slices.Clone(whole.Homes), slices.Clone(whole.Map.East), slices.Clone(whole.Map.Surveys)
	watches := []api.Span{span(20, 30), span(8, 12), span(5, 9), span(-1, -2)}
	watchesBefore := slices.Clone(watches)
	for home := range 2 {
		ask(r, question{home: home, minute: 57, to: 119})
		liberate.Minute(watches[:3], 1)
	}
	way, _ := liberate.Way(r, 1)
	passes, _ := liberate.Passes(r, 1, 57)
	blocks, _ := liberate.Blocks(r, 57)
	way[0], passes[0], blocks[0] = at(77, 77), span(77, 77), api.Block{Home: 77}
	if again, _ := liberate.Way(r, 1); again[0] != at(0, 0) {
		t.Errorf("results of Way share memory: %v", again)
	}
	if again, _ := liberate.Passes(r, 1, 57); again[0] == span(77, 77) {
		t.Errorf("results of Passes share memory: %v", again)
	}
	if again, _ := liberate.Blocks(r, 57); again[0].Home == 77 {
		t.Errorf("results of Blocks share memory: %v", again)
	}
	if !reflect.DeepEqual(whole, before) || !slices.Equal(watches, watchesBefore) {
		t.Errorf("an argument is changed: %v, %v", whole, watches)
	}
}
