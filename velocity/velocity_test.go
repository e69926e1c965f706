package velocity_test

import (
	"math"
	"reflect"
	"slices"
	"strconv"
	"testing"

	"squeaker/api"
	"squeaker/velocity"
)

const lastSecond = 2 * api.MaxSecond

func span(low, high int) api.Span { return api.Span{Low: low, High: high} }

func frac(num, den int) api.Frac { return api.Frac{Num: num, Den: den} }

// box says that a loft is in some columns of some rows.
func box(loft int, x, y api.Span) api.Survey {
	return api.Survey{Loft: loft, Kind: api.Box, X: x, Y: y}
}

// inRow says that a loft is in some columns of the first row.
func inRow(loft, first, last int) api.Survey { return box(loft, span(first, last), span(0, 0)) }

func homing(bird, loft, timer, shown, late int) api.Homing {
	return api.Homing{Bird: bird, Loft: loft, Timer: timer, Clocking: api.Clocking{Shown: shown, Late: late}}
}

// exact is a timer, set in a second, whose clock neither gains nor loses anything, and showed 0 at first.
func exact(set, hours int) api.Timer { return api.Timer{Clock: api.Clock{Hours: hours}, Set: set} }

// example is the derby D of the chapter.
func example() api.Derby {
	return api.Derby{
		Map: api.Map{
			North: 1, Columns: 6, East: []int{100000}, Lofts: 4,
			Surveys: []api.Survey{inRow(0, 0, 0), inRow(1, 3, 3), inRow(2, 3, 4), inRow(3, 5, 5)},
		},
		Point: 0, Rule: api.Down, Start: span(100, 102), Nights: []api.Span{span(150, 159)},
		Timers:  []api.Timer{exact(100, 1), {Clock: api.Clock{Hours: 1, Drift: span(0, 9)}, Set: 0}},
		Homings: []api.Homing{homing(10, 1, 0, 250, 0), homing(11, 2, 0, 300, 10), homing(12, 1, 1, 800, 0)},
	}
}

// changed returns the example with something changed.
func changed(change func(d *api.Derby)) api.Derby {
	d := example()
	change(&d)
	return d
}

// certain is the derby E of the chapter.
func certain() api.Derby {
	return changed(func(d *api.Derby) { d.Map.Surveys[2] = inRow(2, 3, 3) })
}

// A flier is a bird that came home to a loft from a second to another one.
type flier struct{ loft, first, last int }

// flown is a derby in a row of columns ten millimetres from each other. The birds were liberated in the first column; the
// loft 1 lies in the first of some columns, the loft 2 in the second of them, and so on.
func flown(start api.Span, columns []api.Span, nights []api.Span, fliers ...flier) api.Derby {
	d := api.Derby{
		Map:   api.Map{North: 1, Columns: 10, East: []int{10}, Lofts: 1 + len(columns), Surveys: []api.Survey{inRow(0, 0, 0)}},
		Start: start, Nights: nights, Timers: []api.Timer{exact(0, api.MaxHours)},
	}
	for i, c := range columns {
		d.Map.Surveys = append(d.Map.Surveys, inRow(i+1, c.Low, c.High))
	}
	for i, f := range fliers {
		d.Homings = append(d.Homings, homing(i, f.loft, 0, f.last, f.last-f.first))
	}
	return d
}

// at is the columns of lofts whose places are known.
func at(columns ...int) []api.Span {
	var out []api.Span
	for _, c := range columns {
		out = append(out, span(c, c))
	}
	return out
}

// latest is a derby in which everything happens as late as it can.
func latest() api.Derby {
	return changed(func(d *api.Derby) {
		d.Start = span(api.MaxSecond, api.MaxSecond)
		d.Nights = []api.Span{span(0, 0), span(api.MaxSecond, 220000), span(220001, 220001), span(lastSecond, lastSecond)}
		d.Timers = slices.Repeat([]api.Timer{exact(api.MaxSecond, api.MaxHours)}, api.MaxTimers)
		d.Homings = []api.Homing{homing(0, 3, 5, 8*3600, 0), homing(api.MaxMember, 2, 0, 8*3600, api.MaxLate)}
	})
}

// largest is as large as a derby can be.
func largest() api.Derby {
	m := api.Map{North: api.MaxScale, Columns: 10, East: slices.Repeat([]int{api.MaxScale}, 10), Lofts: api.MaxLofts}
	m.Surveys = append(m.Surveys, box(0, span(0, 0), span(0, 9)), box(0, span(0, 9), span(0, 0)))
	for loft := range api.MaxLofts - 1 {
		m.Surveys = append(m.Surveys, box(loft+1, span(1, 9), span(2, 9)), box(loft+1, span(2, 9), span(1, 9)))
	}
	clock := api.Clock{Hours: api.MaxHours, Shown: 10, Drift: span(-api.MaxDrift, api.MaxDrift), Step: api.MaxStep}
	clock.Strikes = slices.Repeat([]api.Strike{{At: 4 * 3600, Shown: span(0, api.MaxShown)}}, api.MaxStrikes)
	d := api.Derby{Map: m, Rule: api.Up, Start: span(0, api.MaxWatch), Timers: slices.Repeat([]api.Timer{{Clock: clock, Set: 10}}, api.MaxTimers)}
	d.Nights = []api.Span{span(0, 99), span(1000, 5000), span(5001, 8000), span(20000, 20000)}
	for i := range api.MaxHomings {
		d.Homings = append(d.Homings, homing(i, 1+i%7, i%6, 28700, api.MaxLate))
	}
	return d
}

// tooFarFrom returns numbers that are not within limits.
func tooFarFrom(low, high int) []int { return []int{low - 1, high + 1, math.MinInt, math.MaxInt} }

// A field is a number of a derby, the limits of it, and how it is set.
type field struct {
	name      string
	low, high int
	set       func(d *api.Derby, n int)
}

// fields returns all numbers of a derby that have limits of its own.
func fields() []field {
	out := []field{
		{"Point", 0, 3, func(d *api.Derby, n int) { d.Point = n }},
		{"Rule", 0, 2, func(d *api.Derby, n int) { d.Rule = n }},
		{"first second of Start", 0, 102, func(d *api.Derby, n int) { d.Start.Low = n }},
		{"last second of Start", 100, 220, func(d *api.Derby, n int) { d.Start.High = n }},
		{"second of Start", 0, api.MaxSecond, func(d *api.Derby, n int) { d.Start = span(n, n) }},
		{"first second of the night", 0, 159, func(d *api.Derby, n int) { d.Nights[0].Low = n }},
		{"last second of the night", 150, lastSecond, func(d *api.Derby, n int) { d.Nights[0].High = n }},
		{"first second of the next night", 160, 200, func(d *api.Derby, n int) { d.Nights = append(d.Nights, span(n, 200)) }},
		{"last second of the next night", 160, lastSecond, func(d *api.Derby, n int) { d.Nights = append(d.Nights, span(160, n)) }},
	}
	for i := range example().Timers {
		out = append(out, field{"Set of the timer " + strconv.Itoa(i), 0, api.MaxSecond, func(d *api.Derby, n int) { d.Timers[i].Set = n }})
	}
	for i := range example().Homings {
		of := " of the homing " + strconv.Itoa(i)
		out = append(out,
			field{"Bird" + of, 0, api.MaxMember, func(d *api.Derby, n int) { d.Homings[i].Bird = n }},
			field{"Loft" + of, 0, 3, func(d *api.Derby, n int) { d.Homings[i].Loft = n }},
			field{"Timer" + of, 0, 1, func(d *api.Derby, n int) { d.Homings[i].Timer = n }},
			field{"first second of Judged" + of, 0, 400, func(d *api.Derby, n int) { d.Homings[i].Judged = span(n, 400) }},
			field{"last second of Judged" + of, 300, lastSecond, func(d *api.Derby, n int) { d.Homings[i].Judged = span(300, n) }})
	}
	return out
}

// invalid returns derbies that are not valid, with valid maps and clocks, by what is broken.
func invalid() map[string]api.Derby {
	out := map[string]api.Derby{
		"a loft less":         changed(func(d *api.Derby) { d.Map.Lofts, d.Map.Surveys, d.Homings[1].Loft = 2, nil, 2 }),
		"spans exchanged":     changed(func(d *api.Derby) { d.Start = span(102, 100) }),
		"too long a Start":    changed(func(d *api.Derby) { d.Start = span(100, 221) }),
		"a night too many":    changed(func(d *api.Derby) { d.Nights = []api.Span{span(1, 1), span(3, 3), span(5, 5), span(7, 7), span(9, 9)} }),
		"nights exchanged":    changed(func(d *api.Derby) { d.Nights = []api.Span{span(150, 159), span(140, 145)} }),
		"nights that overlap": changed(func(d *api.Derby) { d.Nights = []api.Span{span(150, 159), span(159, 170)} }),
		"one night twice":     changed(func(d *api.Derby) { d.Nights = []api.Span{span(150, 159), span(150, 159)} }),
		"a night in another":  changed(func(d *api.Derby) { d.Nights = []api.Span{span(150, 159), span(152, 153)} }),
		"nights in no order":  changed(func(d *api.Derby) { d.Nights = []api.Span{span(1, 2), span(150, 159), span(5, 6)} }),
		"a timer too many":    changed(func(d *api.Derby) { d.Timers = slices.Repeat(d.Timers[:1], api.MaxTimers+1); d.Homings = nil }),
		"no timers":           changed(func(d *api.Derby) { d.Timers = nil }),
		"a homing too many": changed(func(d *api.Derby) {
			d.Homings = nil
			for i := range api.MaxHomings + 1 {
				d.Homings = append(d.Homings, homing(i, 1, 0, 250, 0))
			}
		}),
		"one bird twice":         changed(func(d *api.Derby) { d.Homings[2].Bird = 10 }),
		"one homing twice":       changed(func(d *api.Derby) { d.Homings = append(d.Homings, d.Homings[1]) }),
		"Judged exchanged":       changed(func(d *api.Derby) { d.Homings[1].Judged = span(395, 390) }),
		"Judged below 0 and 0":   changed(func(d *api.Derby) { d.Homings[1].Judged = span(-1, 0) }),
		"Judged 1 and 0":         changed(func(d *api.Derby) { d.Homings[1].Judged = span(1, 0) }),
		"the last timer is late": changed(func(d *api.Derby) { d.Timers = append(d.Timers, exact(api.MaxSecond+1, 1)) }),
	}
	for _, f := range fields() {
		for _, n := range tooFarFrom(f.low, f.high) {
			out[f.name+" "+strconv.Itoa(n)] = changed(func(d *api.Derby) { f.set(d, n) })
		}
	}
	return out
}

// A flawed derby is a valid one with an error of lofts or clocks.
type flawed struct {
	d api.Derby
	e api.Errno
}

// unsound returns valid derbies whose maps or clocks are not valid.
func unsound() map[string]flawed {
	badTimer := api.Timer{Clock: api.Clock{Hours: 9}}
	return map[string]flawed{
		"no way to the next row":    {changed(func(d *api.Derby) { d.Map.North = 0 }), api.ErrMap},
		"no rows":                   {changed(func(d *api.Derby) { d.Map.East = nil }), api.ErrMap},
		"too many lofts":            {changed(func(d *api.Derby) { d.Map.Lofts = api.MaxLofts + 1 }), api.ErrMap},
		"most lofts":                {changed(func(d *api.Derby) { d.Map.Lofts = math.MaxInt }), api.ErrMap},
		"an empty map but lofts":    {changed(func(d *api.Derby) { d.Map = api.Map{Lofts: 4} }), api.ErrMap},
		"a survey of no loft":       {changed(func(d *api.Derby) { d.Map.Surveys[3].Loft = 4 }), api.ErrSurvey},
		"a survey of no kind":       {changed(func(d *api.Derby) { d.Map.Surveys = make([]api.Survey, 1) }), api.ErrSurvey},
		"too many surveys":          {changed(func(d *api.Derby) { d.Map.Surveys = slices.Repeat(d.Map.Surveys, 5) }), api.ErrSurvey},
		"a clock without hours":     {changed(func(d *api.Derby) { d.Timers[0].Clock.Hours = 0 }), api.ErrClock},
		"drifts exchanged":          {changed(func(d *api.Derby) { d.Timers[1].Clock.Drift = span(9, 0) }), api.ErrClock},
		"a clock of no homing":      {changed(func(d *api.Derby) { d.Timers = append(d.Timers, badTimer) }), api.ErrClock},
		"a clock without a homing":  {changed(func(d *api.Derby) { d.Timers, d.Homings = []api.Timer{badTimer}, nil }), api.ErrClock},
		"a strike after all hours":  {changed(func(d *api.Derby) { d.Timers[0].Clock.Strikes = []api.Strike{{At: 3601}} }), api.ErrClock},
		"a map and a clock":         {changed(func(d *api.Derby) { d.Map.North = -1; d.Timers[0].Clock.Hours = 0 }), api.ErrMap},
		"a survey and a clock":      {changed(func(d *api.Derby) { d.Map.Surveys[0].Kind = 3; d.Timers[0].Clock.Hours = 0 }), api.ErrSurvey},
		"a clock and a clocking":    {changed(func(d *api.Derby) { d.Timers[1].Clock.Step = -1; d.Homings[0].Clocking.Late = -1 }), api.ErrClock},
		"a column too far":          {changed(func(d *api.Derby) { d.Map.Surveys[0].X = span(6, 6) }), api.ErrSurvey},
		"a survey, and no distance": {changed(func(d *api.Derby) { d.Homings[0].Loft = 0; d.Map.Surveys[0].Dist = span(1, 1) }), api.ErrSurvey},
	}
}

// noTruth makes a map one without a truth.
func noTruth(m *api.Map) { m.Surveys = append(m.Surveys, inRow(0, 1, 1)) }

// noMoment makes a clock one without a truth.
func noMoment(c *api.Clock) { c.Strikes = []api.Strike{{At: 0, Shown: span(1, 1)}} }

// unanswered returns valid derbies of which lofts or clocks cannot answer.
func unanswered() map[string]flawed {
	return map[string]flawed{
		"a map without a truth": {changed(func(d *api.Derby) { noTruth(&d.Map) }), api.ErrNone},
		"a clocking below 0":    {changed(func(d *api.Derby) { d.Homings[2].Clocking.Shown = -1 }), api.ErrClocking},
		"a clocking too great":  {changed(func(d *api.Derby) { d.Homings[0].Clocking.Shown = api.MaxShown + 1 }), api.ErrClocking},
		"later than late":       {changed(func(d *api.Derby) { d.Homings[1].Clocking.Late = api.MaxLate + 1 }), api.ErrClocking},
		"earlier than late":     {changed(func(d *api.Derby) { d.Homings[1].Clocking.Late = -1 }), api.ErrClocking},
		"a clock without truth": {changed(func(d *api.Derby) { noMoment(&d.Timers[1].Clock) }), api.ErrNone},
		"never shown":           {changed(func(d *api.Derby) { d.Homings[2].Clocking.Shown = 3610 }), api.ErrNone},
		"not surely shown":      {changed(func(d *api.Derby) { d.Homings[2].Clocking.Shown = 3601 }), api.ErrNone},
		// homing by homing, the distance before the clock
		"the map before a clocking":    {changed(func(d *api.Derby) { noTruth(&d.Map); d.Homings[0].Clocking.Late = -1 }), api.ErrNone},
		"a clock, and then a clocking": {changed(func(d *api.Derby) { noMoment(&d.Timers[0].Clock); d.Homings[2].Clocking.Late = -1 }), api.ErrNone},
		"a clocking, and then a clock": {changed(func(d *api.Derby) { noMoment(&d.Timers[1].Clock); d.Homings[0].Clocking.Late = -1 }), api.ErrClocking},
		"a clocking of such a clock":   {changed(func(d *api.Derby) { noMoment(&d.Timers[1].Clock); d.Homings[2].Clocking.Late = -1 }), api.ErrClocking},
		// all of it before ErrHoming
		"at Point, and then a clocking":       {changed(func(d *api.Derby) { d.Homings[0].Loft = 0; d.Homings[2].Clocking.Late = -1 }), api.ErrClocking},
		"not judged so, and then a clock":     {changed(func(d *api.Derby) { d.Homings[0].Judged = span(1, 1); noMoment(&d.Timers[1].Clock) }), api.ErrNone},
		"not flown, and then a clocking":      {changed(func(d *api.Derby) { d.Homings[0].Clocking.Shown = 0; d.Homings[1].Clocking.Shown = -1 }), api.ErrClocking},
		"at Point, and a map without a truth": {changed(func(d *api.Derby) { noTruth(&d.Map); d.Homings[0].Loft = 0 }), api.ErrNone},
	}
}

// noRace returns valid derbies of which lofts and clocks can answer, some bird of which may have no velocity.
func noRace() map[string]api.Derby {
	out := map[string]api.Derby{
		"the loft of Point":        changed(func(d *api.Derby) { d.Homings[1].Loft = 0 }),
		"Point at a loft":          changed(func(d *api.Derby) { d.Point = 1 }),
		"a loft that can be there": changed(func(d *api.Derby) { d.Map.Surveys[2] = inRow(2, 0, 5) }),
		"Point can be there":       changed(func(d *api.Derby) { d.Map.Surveys[0] = inRow(0, 0, 3) }),
		"a survey can be wrong":    changed(func(d *api.Derby) { d.Map.Wrong = 1 }),
		"judged too early":         changed(func(d *api.Derby) { d.Homings[1].Judged = span(300, 389) }),
		"judged too late":          changed(func(d *api.Derby) { d.Homings[1].Judged = span(401, lastSecond) }),
		"judged 0 to 1":            changed(func(d *api.Derby) { d.Homings[1].Judged = span(0, 1) }),
		"home when it was set":     changed(func(d *api.Derby) { d.Homings[0].Clocking.Shown = 0 }),
		"home when liberated":      changed(func(d *api.Derby) { d.Homings[0].Clocking.Shown = 2 }),
		"home as late as that":     changed(func(d *api.Derby) { d.Homings[1].Clocking = api.Clocking{Shown: 300, Late: 298} }),
		"liberated afterwards":     changed(func(d *api.Derby) { d.Start = span(360, 360) }),
		"liberated just then":      changed(func(d *api.Derby) { d.Start = span(340, 350) }),
		"a night all the time":     changed(func(d *api.Derby) { d.Nights[0] = span(0, lastSecond) }),
		"a night from then on":     changed(func(d *api.Derby) { d.Nights[0] = span(102, 349) }),
		"nights in a row":          changed(func(d *api.Derby) { d.Nights = []api.Span{span(102, 199), span(200, 349)} }),
	}
	for _, rule := range []int{api.Near, api.Up} {
		out["the loft of Point, rounded by "+strconv.Itoa(rule)] = changed(func(d *api.Derby) { d.Rule, d.Homings[1].Loft = rule, 0 })
	}
	return out
}

// An outcome is what a function returned, without its error, and the error.
type outcome struct {
	result any
	e      api.Errno
}

// A question is all that the functions ask beside the derby.
type question struct {
	homing, other int
	judged        api.Span
}

// ask calls each function.
func ask(d api.Derby, q question) map[string]outcome {
	out := map[string]outcome{"Check": {nil, velocity.Check(d)}}
	put := func(name string, result any, e api.Errno) { out[name] = outcome{result, e} }
	flight, e := velocity.Flight(d, q.homing)
	put("Flight", flight, e)
	low, high, e := velocity.Speed(d, q.homing)
	put("Speed", [2]api.Frac{low, high}, e)
	faster, e := velocity.Compare(d, q.homing, q.other)
	put("Compare", faster, e)
	places, e := velocity.Places(d, q.homing)
	put("Places", places, e)
	list, e := velocity.List(d)
	put("List", append([]int(nil), list...), e)
	judged, e := velocity.Judge(d, q.homing, q.judged)
	put("Judge", judged, e)
	return out
}

// checked returns what Check says of a derby for which a question about its homings has an error.
func checked(e api.Errno) api.Errno {
	switch e {
	case api.ErrNone, api.ErrClocking, api.ErrHoming:
		return api.OK
	}
	return e
}

// expectErrors checks the errors of all functions: others, but for those that are named, and for Check, which is given no
// homings; and the zero values.
func expectErrors(t *testing.T, name string, got map[string]outcome, others api.Errno, named map[string]api.Errno) {
	t.Helper()
	for function, o := range got {
		want, ok := named[function]
		if !ok {
			want = others
		}
		if function == "Check" {
			want = checked(others)
		}
		if o.e != want {
			t.Errorf("%s: %s has the error %d, not %d", name, function, o.e, want)
		}
		if o.e != api.OK && o.result != nil && !reflect.ValueOf(o.result).IsZero() {
			t.Errorf("%s: %s returns %v with an error", name, function, o.result)
		}
	}
}

// each returns an error for some functions.
func each(e api.Errno, functions ...string) map[string]api.Errno {
	out := map[string]api.Errno{}
	for _, function := range functions {
		out[function] = e
	}
	return out
}

// A wrongQuestion is one in which something is not as described, and the functions that ask for it.
type wrongQuestion struct {
	question
	functions []string
}

// questions returns wrong questions to a derby with as many homings as the example, and right ones.
func questions() []wrongQuestion {
	var out []wrongQuestion
	add := func(change func(q *question), functions ...string) {
		q := question{homing: 1, other: 2, judged: span(395, 399)}
		change(&q)
		out = append(out, wrongQuestion{q, functions})
	}
	add(func(q *question) {})
	add(func(q *question) { q.homing, q.other, q.judged = 0, 0, span(1, lastSecond) })
	for _, n := range tooFarFrom(0, 2) {
		add(func(q *question) { q.homing = n }, "Flight", "Speed", "Compare", "Places", "Judge")
		add(func(q *question) { q.other = n }, "Compare")
	}
	for _, w := range []api.Span{span(0, 0), span(0, 399), span(-1, 399), span(399, 395), span(395, lastSecond+1), span(math.MinInt, math.MaxInt), span(2, 1), span(-5, -4), span(lastSecond+1, lastSecond+1)} {
		add(func(q *question) { q.judged = w }, "Judge")
	}
	return out
}

// TestErrors: P1 and P7.1, with the errors in their order and zero values beside them.
func TestErrors(t *testing.T) {
	for _, q := range questions() {
		for name, d := range invalid() {
			expectErrors(t, name, ask(d, q.question), api.ErrDerby, nil)
		}
		for name, x := range unsound() {
			judge := each(api.ErrArg, q.functions...)["Judge"]
			expectErrors(t, name, ask(x.d, q.question), x.e, withJudge(nil, len(x.d.Homings), judge))
		}
		for name, x := range unanswered() {
			arg := each(api.ErrArg, q.functions...)
			expectErrors(t, name, ask(x.d, q.question), x.e, withJudge(arg, len(x.d.Homings), arg["Judge"]))
		}
		expectErrors(t, "example", ask(example(), q.question), api.OK, each(api.ErrArg, q.functions...))
	}
}

// withJudge returns errors of functions, with that of Judge, which asks neither lofts nor clocks.
func withJudge(errors map[string]api.Errno, homings int, judge api.Errno) map[string]api.Errno {
	out := map[string]api.Errno{"Judge": judge}
	if homings == 0 {
		out["Judge"] = api.ErrArg
	}
	for function, e := range errors {
		if function != "Judge" {
			out[function] = e
		}
	}
	return out
}

// TestNoRace: P1 and P7.1, ErrHoming, also of functions that ask for other homings, but not of Check and Judge.
func TestNoRace(t *testing.T) {
	for _, q := range questions() {
		for name, d := range noRace() {
			errors := each(api.ErrArg, q.functions...)
			if _, wrong := errors["Judge"]; !wrong {
				errors["Judge"] = api.OK
				if was := d.Homings[q.homing].Judged; was != (api.Span{}) && (was.High < q.judged.Low || was.Low > q.judged.High) {
					errors["Judge"] = api.ErrHoming
				}
			}
			expectErrors(t, name, ask(d, q.question), api.ErrHoming, errors)
		}
	}
}

// raceError returns the error of a question about no homing of a derby.
func raceError(d api.Derby) api.Errno {
	_, e := velocity.List(d)
	return e
}

// expectRace checks that neither Check nor a question has an error.
func expectRace(t *testing.T, name string, d api.Derby) {
	t.Helper()
	if e := velocity.Check(d); e != api.OK {
		t.Errorf("%s: Check = %d", name, e)
	}
	if e := raceError(d); e != api.OK {
		t.Errorf("%s: List has the error %d", name, e)
	}
}

// TestJustARace: P1, derbies that are not quite those without a velocity.
func TestJustARace(t *testing.T) {
	for name, d := range map[string]api.Derby{
		"an empty loft at Point":     changed(func(d *api.Derby) { d.Map.Surveys[3] = inRow(3, 0, 0) }),
		"a loft that can be near":    changed(func(d *api.Derby) { d.Map.Surveys[2] = inRow(2, 1, 5) }),
		"Point can be near":          changed(func(d *api.Derby) { d.Map.Surveys[0] = inRow(0, 0, 2) }),
		"judged early enough":        changed(func(d *api.Derby) { d.Homings[1].Judged = span(0, 390) }),
		"judged late enough":         changed(func(d *api.Derby) { d.Homings[1].Judged = span(400, lastSecond) }),
		"judged to be later":         changed(func(d *api.Derby) { d.Homings[1].Clocking.Late = 298; d.Homings[1].Judged = span(103, 400) }),
		"home just afterwards":       changed(func(d *api.Derby) { d.Homings[0].Clocking.Shown = 3 }),
		"home as late as that":       changed(func(d *api.Derby) { d.Homings[1].Clocking = api.Clocking{Shown: 300, Late: 297} }),
		"liberated just before":      changed(func(d *api.Derby) { d.Start = span(340, 349) }),
		"a night from then on":       changed(func(d *api.Derby) { d.Nights[0] = span(103, lastSecond) }),
		"a night but for the last":   changed(func(d *api.Derby) { d.Nights[0] = span(0, 348) }),
		"nights but for a second":    changed(func(d *api.Derby) { d.Nights = []api.Span{span(0, 199), span(201, lastSecond)} }),
		"an idle clock has no truth": changed(func(d *api.Derby) { d.Timers = append(d.Timers, exact(0, 1)); noMoment(&d.Timers[2].Clock) }),
	} {
		expectRace(t, name, d)
	}
}

// TestManyErrors: P1, derbies with several errors.
func TestManyErrors(t *testing.T) {
	q := question{-1, -1, span(0, 0)}
	for name, x := range unsound() {
		x.d.Rule = 3
		expectErrors(t, name, ask(x.d, q), x.e, each(api.ErrDerby, "Judge"))
	}
	for name, d := range invalid() {
		for e, spoil := range map[api.Errno]func(d *api.Derby){
			api.ErrMap:    func(d *api.Derby) { d.Map.North = 0 },
			api.ErrSurvey: func(d *api.Derby) { d.Map.Surveys = make([]api.Survey, 1) },
			api.ErrClock:  func(d *api.Derby) { d.Timers = slices.Clone(d.Timers); d.Timers[0].Clock = api.Clock{} },
			api.ErrDerby:  func(d *api.Derby) { noTruth(&d.Map); d.Homings[0].Clocking.Late = -1 },
		} {
			worse := d
			if len(d.Timers) > 0 && len(d.Homings) > 0 {
				spoil(&worse)
				expectErrors(t, name, ask(worse, q), e, each(api.ErrDerby, "Judge"))
			}
		}
	}
	for name, x := range unanswered() {
		x.d.Homings[1].Loft = 0
		expectErrors(t, name, ask(x.d, question{0, 0, span(1, 9)}), x.e, each(api.OK, "Judge"))
		x.d.Rule = 3
		expectErrors(t, name, ask(x.d, q), api.ErrDerby, nil)
	}
	for _, lofts := range []int{0, -1, math.MinInt} {
		empty := changed(func(d *api.Derby) { d.Map.Lofts = lofts })
		expectErrors(t, "no lofts", ask(empty, q), api.ErrMap, each(api.ErrDerby, "Judge"))
	}
	none := changed(func(d *api.Derby) { d.Homings = nil; noTruth(&d.Map); noMoment(&d.Timers[0].Clock) })
	expectErrors(t, "no homings", ask(none, question{judged: span(1, 1)}), api.OK, each(api.ErrArg, "Flight", "Speed", "Compare", "Places", "Judge"))
}

// TestCheck: P7.1.
func TestCheck(t *testing.T) {
	for name, d := range map[string]api.Derby{
		"D": example(), "E": certain(), "latest": latest(), "largest": largest(),
		"no homings":     changed(func(d *api.Derby) { d.Homings = []api.Homing{} }),
		"no timers":      changed(func(d *api.Derby) { d.Homings, d.Timers = nil, nil }),
		"no nights":      changed(func(d *api.Derby) { d.Nights = nil }),
		"nothing but":    {Map: api.Map{North: 1, Columns: 1, East: []int{1}, Lofts: 1}},
		"all in one":     flown(span(0, 0), at(1), nil, slices.Repeat([]flier{{1, 1, 1}}, api.MaxHomings)...),
		"as long a wait": changed(func(d *api.Derby) { d.Start = span(100, 220) }),
		"four nights": changed(func(d *api.Derby) {
			d.Nights = []api.Span{span(0, 0), span(1, 1), span(2, 200), span(lastSecond, lastSecond)}
		}),
		"judged": changed(func(d *api.Derby) { d.Homings[1].Judged = span(395, 399) }),
	} {
		expectRace(t, name, d)
	}
	for name, d := range invalid() {
		if e := velocity.Check(d); e != api.ErrDerby {
			t.Errorf("%s: Check = %d", name, e)
		}
	}
	for name, x := range unsound() {
		if e := velocity.Check(x.d); e != x.e {
			t.Errorf("%s: Check = %d, not %d", name, e, x.e)
		}
	}
}

// TestCheckAsksNoHomings: P7.1, Check has no error of valid derbies for which questions about homings have one.
func TestCheckAsksNoHomings(t *testing.T) {
	valid := unanswered()
	for name, d := range noRace() {
		valid["no race: "+name] = flawed{d, api.ErrHoming}
	}
	valid["one place"] = flawed{api.Derby{
		Map:    api.Map{North: 1, Columns: 1, East: []int{1}, Lofts: 1},
		Timers: []api.Timer{exact(0, 1)}, Homings: make([]api.Homing, 1),
	}, api.ErrHoming}
	valid["liberated last"] = flawed{changed(func(d *api.Derby) { d.Start = span(api.MaxSecond-api.MaxWatch, api.MaxSecond) }), api.ErrHoming}
	valid["an empty loft nowhere"] = flawed{changed(func(d *api.Derby) { d.Map.Surveys = append(d.Map.Surveys, inRow(3, 4, 4)) }), api.ErrNone}
	for name, x := range valid {
		if e := velocity.Check(x.d); e != api.OK {
			t.Errorf("%s: Check = %d", name, e)
		}
		if e := raceError(x.d); e != x.e {
			t.Errorf("%s: List has the error %d, not %d", name, e, x.e)
		}
	}
}

// TestLimits: P7.1, a number that is still within its limits does not make a derby invalid.
func TestLimits(t *testing.T) {
	for _, f := range fields() {
		for _, n := range []int{f.low, f.high} {
			d := changed(func(d *api.Derby) { f.set(d, n) })
			if e := velocity.Check(d); e != api.OK {
				t.Errorf("%s %d: Check = %d", f.name, n, e)
			}
			if e := raceError(d); e != api.OK && e != api.ErrHoming {
				t.Errorf("%s %d: List has the error %d", f.name, n, e)
			}
			if _, e := velocity.Judge(d, 0, span(1, lastSecond)); e != api.OK {
				t.Errorf("%s %d: Judge = %d", f.name, n, e)
			}
		}
	}
}

// TestExamples: P7.2 to P7.7, the chapter's examples.
func TestExamples(t *testing.T) {
	for i, c := range []struct {
		flight    api.Span
		low, high api.Frac
		places    api.Span
	}{
		{span(238, 240), frac(1250, 1), frac(150000, 119), span(1, 2)},
		{span(278, 290), frac(30000, 29), frac(200000, 139), span(1, 2)},
		{span(687, 690), frac(10000, 23), frac(100000, 229), span(3, 3)},
	} {
		if s, e := velocity.Flight(example(), i); s != c.flight || e != api.OK {
			t.Errorf("%d: Flight = %v, %d", i, s, e)
		}
		if low, high, e := velocity.Speed(example(), i); low != c.low || high != c.high || e != api.OK {
			t.Errorf("%d: Speed = %v, %v, %d", i, low, high, e)
		}
		if s, e := velocity.Places(example(), i); s != c.places || e != api.OK {
			t.Errorf("%d: Places = %v, %d", i, s, e)
		}
	}
	expectCompared(t, "D", example(), 0, 1, api.OpenFaster)
	expectCompared(t, "D", example(), 0, 2, api.FirstFaster)
	expectCompared(t, "D", example(), 2, 1, api.SecondFaster)
	expectCompared(t, "E", certain(), 0, 1, api.FirstFaster)
	expectList(t, "D", example(), 0, 0, 3)
	expectList(t, "E", certain(), 1, 2, 3)
	judged, e := velocity.Judge(example(), 1, span(395, 399))
	s, f := velocity.Flight(judged, 1)
	if s != span(283, 289) || e != api.OK || f != api.OK {
		t.Errorf("Flight of what Judge returns = %v, %d, %d", s, e, f)
	}
}

func expectCompared(t *testing.T, name string, d api.Derby, a, b, want int) {
	t.Helper()
	if n, e := velocity.Compare(d, a, b); n != want || e != api.OK {
		t.Errorf("%s: Compare of %d and %d = %d, %d, not %d", name, a, b, n, e, want)
	}
}

func expectList(t *testing.T, name string, d api.Derby, want ...int) {
	t.Helper()
	if l, e := velocity.List(d); !slices.Equal(l, want) || e != api.OK {
		t.Errorf("%s: List = %v, %d, not %v", name, l, e, want)
	}
}

func expectPlaces(t *testing.T, name string, d api.Derby, homing int, want api.Span) {
	t.Helper()
	if s, e := velocity.Places(d, homing); s != want || e != api.OK {
		t.Errorf("%s: Places of %d = %v, %d, not %v", name, homing, s, e, want)
	}
}

// TestFlight: P7.2.
func TestFlight(t *testing.T) {
	spans := func(l ...api.Span) []api.Span { return l }
	for i, c := range []struct {
		start  api.Span
		nights []api.Span
		home   api.Span
		want   api.Span
	}{
		{span(10, 10), nil, span(11, 11), span(1, 1)}, {span(10, 10), nil, span(20, 20), span(10, 10)}, {span(0, 0), nil, span(600, 600), span(600, 600)},
		{span(10, 12), nil, span(20, 20), span(8, 10)}, {span(10, 10), nil, span(20, 25), span(10, 15)}, {span(10, 12), nil, span(20, 25), span(8, 15)}, {span(10, 19), nil, span(20, 20), span(1, 10)},
		// a night of one second: before, first, last, and when the bird came home
		{span(10, 10), spans(span(9, 9)), span(20, 20), span(10, 10)}, {span(10, 10), spans(span(10, 10)), span(20, 20), span(9, 9)},
		{span(10, 10), spans(span(19, 19)), span(20, 20), span(9, 9)}, {span(10, 10), spans(span(20, 20)), span(20, 20), span(10, 10)},
		// nights over the ends, and within
		{span(10, 10), spans(span(5, 14)), span(20, 20), span(5, 5)}, {span(10, 10), spans(span(15, 25)), span(20, 20), span(5, 5)}, {span(10, 10), spans(span(12, 15)), span(20, 20), span(6, 6)},
		{span(10, 10), spans(span(0, 8)), span(20, 20), span(10, 10)}, {span(10, 10), spans(span(30, 400000)), span(20, 20), span(10, 10)}, {span(10, 10), spans(span(0, 18)), span(20, 20), span(1, 1)},
		{span(10, 10), spans(span(11, 400000)), span(20, 600), span(1, 1)},
		// several ones, next to each other, too
		{span(10, 10), spans(span(11, 12), span(13, 14)), span(20, 20), span(6, 6)}, {span(10, 10), spans(span(0, 10), span(12, 12), span(14, 16), span(19, 30)), span(20, 20), span(4, 4)},
		// liberated or come home by night, nobody knows when
		{span(10, 14), spans(span(10, 14)), span(20, 20), span(5, 5)}, {span(10, 14), spans(span(11, 13)), span(20, 20), span(6, 7)}, {span(10, 10), spans(span(18, 30)), span(20, 25), span(8, 8)},
		{span(10, 12), spans(span(11, 11), span(21, 22)), span(20, 25), span(8, 12)}, {span(0, 120), spans(span(0, 119), span(121, 130)), span(200, 200), span(70, 70)},
	} {
		d := flown(c.start, at(1), c.nights, flier{1, c.home.Low, c.home.High})
		if s, e := velocity.Flight(d, 0); s != c.want || e != api.OK {
			t.Errorf("%d: Flight = %v, %d, not %v", i, s, e, c.want)
		}
	}
	// of the 8 hours after the second 200000 there are nights from 200000 to 220001
	for i, want := range []api.Span{span(8*3600-20002, 8*3600-20002), span(8*3600-20602, 8*3600-20002)} {
		if s, e := velocity.Flight(latest(), i); s != want || e != api.OK {
			t.Errorf("latest: Flight of %d = %v, %d, not %v", i, s, e, want)
		}
	}
}

// TestClocked: P7.2, when birds came home, by their timers and by what was judged.
func TestClocked(t *testing.T) {
	for i, c := range []struct {
		timer    api.Timer
		clocking api.Clocking
		judged   api.Span
		want     api.Span
	}{
		{exact(0, 1), api.Clocking{Shown: 50}, span(0, 0), span(50, 50)}, {exact(30, 1), api.Clocking{Shown: 50}, span(0, 0), span(80, 80)}, {exact(30, 1), api.Clocking{Shown: 50, Late: 20}, span(0, 0), span(60, 80)},
		// not before the timer was set
		{exact(30, 1), api.Clocking{Shown: 50, Late: 90}, span(0, 0), span(30, 80)}, {exact(40, 1), api.Clocking{}, span(0, 0), span(40, 40)},
		{api.Timer{Clock: api.Clock{Hours: 1, Shown: 7}, Set: 30}, api.Clocking{Shown: 50, Late: 3}, span(0, 0), span(70, 73)},
		{api.Timer{Clock: api.Clock{Hours: 1, Drift: span(-9, 9)}, Set: 30}, api.Clocking{Shown: 1800}, span(0, 0), span(1826, 1835)},
		// judged within, at the ends, and beyond them
		{exact(30, 1), api.Clocking{Shown: 50, Late: 20}, span(65, 70), span(65, 70)}, {exact(30, 1), api.Clocking{Shown: 50, Late: 20}, span(60, 60), span(60, 60)}, {exact(30, 1), api.Clocking{Shown: 50, Late: 20}, span(80, 80), span(80, 80)},
		{exact(30, 1), api.Clocking{Shown: 50, Late: 20}, span(0, 70), span(60, 70)}, {exact(30, 1), api.Clocking{Shown: 50, Late: 20}, span(70, lastSecond), span(70, 80)}, {exact(30, 1), api.Clocking{Shown: 50, Late: 20}, span(0, lastSecond), span(60, 80)},
		{exact(30, 1), api.Clocking{Shown: 50}, span(1, 80), span(80, 80)}, {exact(30, 1), api.Clocking{Shown: 50}, span(80, 81), span(80, 80)},
	} {
		d := flown(span(0, 0), at(1), nil, flier{1, 5, 5}, flier{1, 6, 6})
		d.Timers = append(d.Timers, c.timer)
		d.Homings[1] = api.Homing{Bird: 9, Loft: 1, Timer: 1, Clocking: c.clocking, Judged: c.judged}
		if s, e := velocity.Flight(d, 1); s != c.want || e != api.OK {
			t.Errorf("%d: Flight = %v, %d, not %v", i, s, e, c.want)
		}
	}
}

// TestSpeed: P7.3.
func TestSpeed(t *testing.T) {
	for i, c := range []struct {
		start, columns, home api.Span
		low, high            api.Frac
	}{
		{span(0, 0), span(1, 1), span(1, 1), frac(10, 1), frac(10, 1)}, {span(0, 0), span(1, 1), span(10, 10), frac(1, 1), frac(1, 1)}, {span(0, 0), span(1, 1), span(20, 20), frac(1, 2), frac(1, 2)},
		{span(0, 0), span(1, 1), span(7, 7), frac(10, 7), frac(10, 7)}, {span(0, 0), span(9, 9), span(120, 120), frac(3, 4), frac(3, 4)}, {span(0, 0), span(4, 4), span(30, 30), frac(4, 3), frac(4, 3)},
		{span(0, 0), span(1, 3), span(12, 12), frac(5, 6), frac(5, 2)}, {span(0, 0), span(2, 2), span(12, 15), frac(4, 3), frac(5, 3)}, {span(5, 9), span(2, 2), span(15, 15), frac(2, 1), frac(10, 3)},
		{span(5, 9), span(2, 3), span(15, 17), frac(5, 3), frac(5, 1)},
	} {
		d := flown(c.start, []api.Span{c.columns}, nil, flier{1, c.home.Low, c.home.High})
		if low, high, e := velocity.Speed(d, 0); low != c.low || high != c.high || e != api.OK {
			t.Errorf("%d: Speed = %v, %v, %d", i, low, high, e)
		}
	}
	// from two columns and rows of two kilometres to nine of them; 5656855 / 21670 has a common divisor
	low, high, e := velocity.Speed(largest(), 0)
	flight, f := velocity.Flight(largest(), 0)
	if flight != span(20907, 21670) || low != frac(5743, 22) || high != frac(25455845, 20907) || e != api.OK || f != api.OK {
		t.Errorf("largest: Speed = %v, %v, %d of %v, %d", low, high, e, flight, f)
	}
}

// TestRules: P7.3, distances rounded by each rule: of 1.80 millimetres, of 3.16, and of 2.83 to 3.61.
func TestRules(t *testing.T) {
	d := flown(span(0, 0), nil, nil, flier{1, 7, 7}, flier{2, 7, 7}, flier{3, 7, 7})
	d.Map = api.Map{North: 1, Columns: 4, East: []int{1, 2, 1}, Lofts: 4, Surveys: []api.Survey{
		box(0, span(0, 0), span(0, 0)), box(1, span(1, 1), span(1, 1)), box(2, span(2, 2), span(1, 1)), box(3, span(2, 3), span(2, 2)),
	}}
	for rule, want := range [][3]api.Span{{span(1, 1), span(3, 3), span(2, 3)}, {span(2, 2), span(3, 3), span(3, 4)}, {span(2, 2), span(4, 4), span(3, 4)}} {
		d.Rule = rule
		for i, far := range want {
			if low, high, e := velocity.Speed(d, i); low != frac(far.Low, 7) || high != frac(far.High, 7) || e != api.OK {
				t.Errorf("rule %d: Speed of %d = %v, %v, %d, not of %v", rule, i, low, high, e, far)
			}
		}
	}
}

// TestPoint: P7.3, birds that were liberated at another loft.
func TestPoint(t *testing.T) {
	d := flown(span(0, 0), at(3, 7), nil, flier{0, 5, 5}, flier{2, 5, 5})
	d.Point = 1
	for i, want := range []int{6, 8} {
		if low, high, e := velocity.Speed(d, i); low != frac(want, 1) || high != frac(want, 1) || e != api.OK {
			t.Errorf("Speed of %d = %v, %v, %d", i, low, high, e)
		}
	}
}

// mirrored is what Compare says of two birds the other way round.
func mirrored(faster int) int {
	switch faster {
	case api.FirstFaster:
		return api.SecondFaster
	case api.SecondFaster:
		return api.FirstFaster
	}
	return faster
}

// TestCompare: P7.4, and P7.10 of all cases.
func TestCompare(t *testing.T) {
	now, later := span(0, 0), span(0, 1)
	dark := func(first, last int) []api.Span { return []api.Span{span(first, last)} }
	somewhere := []api.Span{span(1, 9), span(1, 9)}
	for name, c := range map[string]struct {
		start   api.Span
		columns []api.Span
		nights  []api.Span
		a, b    flier
		want    int
	}{
		"one loft, first":                  {now, at(2), nil, flier{1, 30, 30}, flier{1, 31, 31}, api.FirstFaster},
		"one loft, together":               {now, at(2), nil, flier{1, 30, 30}, flier{1, 30, 30}, api.SameSpeed},
		"one loft, first, somewhere":       {now, somewhere, nil, flier{1, 30, 30}, flier{1, 31, 31}, api.FirstFaster},
		"one loft, together, somewhere":    {now, somewhere, nil, flier{1, 30, 30}, flier{1, 30, 30}, api.SameSpeed},
		"one loft, somewhere, sometime":    {span(0, 29), somewhere, nil, flier{1, 30, 30}, flier{1, 31, 31}, api.FirstFaster},
		"one loft, together, sometime":     {span(0, 29), somewhere, nil, flier{1, 30, 30}, flier{1, 30, 30}, api.SameSpeed},
		"one loft, just before":            {now, at(2), nil, flier{1, 20, 30}, flier{1, 31, 40}, api.FirstFaster},
		"one loft, not surely before":      {now, at(2), nil, flier{1, 20, 30}, flier{1, 30, 40}, api.OpenFaster},
		"one loft, one is not known":       {now, at(2), nil, flier{1, 30, 31}, flier{1, 30, 30}, api.OpenFaster},
		"one loft, as little known":        {now, at(2), nil, flier{1, 30, 31}, flier{1, 30, 31}, api.OpenFaster},
		"one loft, between":                {now, at(2), nil, flier{1, 30, 40}, flier{1, 32, 34}, api.OpenFaster},
		"two lofts somewhere":              {now, somewhere, nil, flier{1, 30, 30}, flier{2, 31, 31}, api.OpenFaster},
		"two lofts at one place, first":    {now, at(2, 2), nil, flier{1, 30, 30}, flier{2, 31, 31}, api.FirstFaster},
		"two lofts at one place, together": {now, at(2, 2), nil, flier{1, 30, 30}, flier{2, 30, 30}, api.SameSpeed},
		"twice as far in twice the time":   {now, at(2, 4), nil, flier{1, 10, 10}, flier{2, 20, 20}, api.SameSpeed},
		"a little later":                   {now, at(2, 4), nil, flier{1, 10, 10}, flier{2, 21, 21}, api.FirstFaster},
		"a little earlier":                 {now, at(2, 4), nil, flier{1, 10, 10}, flier{2, 19, 19}, api.SecondFaster},
		"thirds":                           {now, at(3, 7), nil, flier{1, 30, 30}, flier{2, 70, 70}, api.SameSpeed},
		"twice the time at first only":     {later, at(2, 4), nil, flier{1, 10, 10}, flier{2, 20, 20}, api.OpenFaster},
		"twice the time at last only":      {later, at(2, 4), nil, flier{1, 10, 10}, flier{2, 19, 19}, api.OpenFaster},
		"twice the time in between":        {span(0, 2), at(2, 4), nil, flier{1, 10, 10}, flier{2, 19, 19}, api.OpenFaster},
		"more than it at first":            {later, at(2, 4), nil, flier{1, 10, 10}, flier{2, 21, 21}, api.FirstFaster},
		"less than it at last":             {later, at(2, 4), nil, flier{1, 10, 10}, flier{2, 18, 18}, api.SecondFaster},
		"just nearer":                      {now, []api.Span{span(2, 4), span(5, 9)}, nil, flier{1, 30, 30}, flier{2, 30, 30}, api.SecondFaster},
		"not surely nearer":                {now, []api.Span{span(2, 5), span(5, 9)}, nil, flier{1, 30, 30}, flier{2, 30, 30}, api.OpenFaster},
		"nearer, and not surely in time":   {now, []api.Span{span(2, 4), span(5, 9)}, nil, flier{1, 20, 40}, flier{2, 20, 40}, api.OpenFaster},
		"nearer, and later":                {now, []api.Span{span(2, 4), span(5, 9)}, nil, flier{1, 36, 40}, flier{2, 20, 44}, api.SecondFaster},
		"nearer, and not surely later":     {now, []api.Span{span(2, 4), span(5, 9)}, nil, flier{1, 36, 40}, flier{2, 20, 45}, api.OpenFaster},
		"one loft, home by night":          {now, at(2), dark(28, 40), flier{1, 30, 30}, flier{1, 35, 35}, api.SameSpeed},
		"one loft, sometime by night":      {now, at(2), dark(28, 40), flier{1, 28, 32}, flier{1, 31, 41}, api.SameSpeed},
		"one loft, later than the night":   {now, at(2), dark(28, 40), flier{1, 28, 32}, flier{1, 31, 42}, api.OpenFaster},
		"one loft, after the night":        {now, at(2), dark(28, 40), flier{1, 28, 41}, flier{1, 42, 50}, api.FirstFaster},
		"one loft, a night between":        {now, at(2), dark(30, 34), flier{1, 30, 30}, flier{1, 35, 35}, api.SameSpeed},
		"one loft, but for the first":      {now, at(2), dark(31, 34), flier{1, 30, 30}, flier{1, 35, 35}, api.FirstFaster},
		"one loft, but for the last":       {now, at(2), dark(30, 33), flier{1, 30, 30}, flier{1, 35, 35}, api.FirstFaster},
		"liberated by night":               {span(0, 9), at(2, 4), dark(0, 9), flier{1, 20, 20}, flier{2, 30, 30}, api.SameSpeed},
		"liberated by night, or not":       {span(0, 10), at(2, 4), dark(1, 10), flier{1, 20, 20}, flier{2, 30, 30}, api.OpenFaster},
		"each has its night":               {now, at(2, 4), dark(10, 14), flier{1, 10, 12}, flier{2, 25, 25}, api.SameSpeed},
	} {
		d := flown(c.start, c.columns, c.nights, c.a, c.b)
		expectCompared(t, name, d, 0, 1, c.want)
		expectCompared(t, name+", the other way round", d, 1, 0, mirrored(c.want))
		expectCompared(t, name+", the first with itself", d, 0, 0, api.SameSpeed)
		expectCompared(t, name+", the second with itself", d, 1, 1, api.SameSpeed)
	}
}

// TestPlaces: P7.5 and P7.6.
func TestPlaces(t *testing.T) {
	now := span(0, 0)
	for name, c := range map[string]struct {
		start   api.Span
		columns []api.Span
		fliers  []flier
		want    []api.Span
		list    []int
	}{
		"one":          {now, at(1), []flier{{1, 5, 9}}, []api.Span{span(1, 1)}, []int{1}},
		"none":         {now, at(1), nil, nil, nil},
		"three":        {now, at(1), []flier{{1, 7, 7}, {1, 5, 5}, {1, 6, 6}}, []api.Span{span(3, 3), span(1, 1), span(2, 2)}, []int{3, 1, 2}},
		"two at first": {now, at(1), []flier{{1, 7, 7}, {1, 5, 5}, {1, 5, 5}}, []api.Span{span(3, 3), span(1, 1), span(1, 1)}, []int{3, 1, 1}},
		"two at last":  {now, at(1), []flier{{1, 7, 7}, {1, 5, 5}, {1, 7, 7}}, []api.Span{span(2, 2), span(1, 1), span(2, 2)}, []int{2, 1, 2}},
		"all at once":  {now, at(1), slices.Repeat([]flier{{1, 7, 7}}, 8), slices.Repeat([]api.Span{span(1, 1)}, 8), slices.Repeat([]int{1}, 8)},
		"all sometime": {now, at(1), slices.Repeat([]flier{{1, 7, 8}}, 8), slices.Repeat([]api.Span{span(1, 8)}, 8), make([]int, 8)},
		"two by two":   {now, at(1), []flier{{1, 5, 6}, {1, 7, 9}, {1, 8, 8}, {1, 6, 6}}, []api.Span{span(1, 1), span(3, 4), span(3, 4), span(1, 2)}, []int{1, 0, 0, 0}},
		"a tie or not": {now, at(1), []flier{{1, 5, 6}, {1, 6, 6}}, []api.Span{span(1, 1), span(1, 2)}, []int{1, 0}},
		"one in front": {now, []api.Span{span(1, 9)}, []flier{{1, 5, 5}, {1, 6, 8}, {1, 7, 9}}, []api.Span{span(1, 1), span(2, 3), span(2, 3)}, []int{1, 0, 0}},
		"two places":   {now, []api.Span{span(1, 9), span(1, 9)}, []flier{{1, 5, 5}, {1, 6, 6}, {2, 5, 5}}, []api.Span{span(1, 2), span(2, 3), span(1, 3)}, make([]int, 3)},
		"far and near": {now, at(2, 4, 8), []flier{{1, 10, 10}, {2, 20, 20}, {3, 39, 39}, {3, 41, 41}}, []api.Span{span(2, 2), span(2, 2), span(1, 1), span(4, 4)}, []int{2, 2, 1, 4}},
		// the second one is in front if the birds were liberated at 0, the third one if at 3; and nobody else but the first
		// one at 1 and 2
		"sometime":        {span(0, 3), at(2, 4, 1), []flier{{1, 20, 20}, {2, 39, 39}, {3, 11, 11}}, []api.Span{span(1, 2), span(1, 3), span(1, 3)}, make([]int, 3)},
		"sometime, at 0":  {span(0, 0), at(2, 4, 1), []flier{{1, 20, 20}, {2, 39, 39}, {3, 11, 11}}, []api.Span{span(2, 2), span(1, 1), span(3, 3)}, []int{2, 1, 3}},
		"sometime, later": {span(1, 2), at(2, 4, 1), []flier{{1, 20, 20}, {2, 39, 39}, {3, 11, 11}}, []api.Span{span(1, 1), span(1, 3), span(1, 3)}, []int{1, 0, 0}},
		"sometime, at 3":  {span(3, 3), at(2, 4, 1), []flier{{1, 20, 20}, {2, 39, 39}, {3, 11, 11}}, []api.Span{span(2, 2), span(3, 3), span(1, 1)}, []int{2, 3, 1}},
		// here the second one is ahead of the first one at 0 to 2, the third one at 1 to 3
		"in between":        {span(0, 3), at(2, 4, 1), []flier{{1, 20, 20}, {2, 37, 37}, {3, 10, 10}}, []api.Span{span(2, 3), span(1, 2), span(1, 2)}, make([]int, 3)},
		"in between, at 0":  {span(0, 0), at(2, 4, 1), []flier{{1, 20, 20}, {2, 37, 37}, {3, 10, 10}}, []api.Span{span(2, 2), span(1, 1), span(2, 2)}, []int{2, 1, 2}},
		"in between, later": {span(1, 2), at(2, 4, 1), []flier{{1, 20, 20}, {2, 37, 37}, {3, 10, 10}}, []api.Span{span(3, 3), span(1, 2), span(1, 1)}, []int{3, 0, 1}},
		"in between, at 3":  {span(3, 3), at(2, 4, 1), []flier{{1, 20, 20}, {2, 37, 37}, {3, 10, 10}}, []api.Span{span(2, 2), span(2, 2), span(1, 1)}, []int{2, 2, 1}},
	} {
		d := flown(c.start, c.columns, nil, c.fliers...)
		for i, want := range c.want {
			expectPlaces(t, name, d, i, want)
		}
		expectList(t, name, d, c.list...)
	}
}

// TestJudge: P7.7.
func TestJudge(t *testing.T) {
	for i, c := range []struct {
		was, w, want api.Span
		e            api.Errno
	}{
		{span(0, 0), span(395, 399), span(395, 399), api.OK}, {span(0, 0), span(1, lastSecond), span(1, lastSecond), api.OK}, {span(0, 0), span(1, 1), span(1, 1), api.OK},
		{span(0, 0), span(lastSecond, lastSecond), span(lastSecond, lastSecond), api.OK},
		{span(395, 399), span(397, 500), span(397, 399), api.OK}, {span(395, 399), span(300, 396), span(395, 396), api.OK}, {span(395, 399), span(395, 399), span(395, 399), api.OK},
		{span(395, 399), span(396, 398), span(396, 398), api.OK}, {span(395, 399), span(1, lastSecond), span(395, 399), api.OK}, {span(395, 399), span(399, 500), span(399, 399), api.OK},
		{span(395, 399), span(300, 395), span(395, 395), api.OK}, {span(395, 399), span(400, 500), span(0, 0), api.ErrHoming}, {span(395, 399), span(300, 394), span(0, 0), api.ErrHoming},
		{span(0, 5), span(1, 9), span(1, 5), api.OK}, {span(0, 1), span(1, 9), span(1, 1), api.OK}, {span(0, 1), span(2, 9), span(0, 0), api.ErrHoming},
		{span(0, 1), span(0, 0), span(0, 0), api.ErrArg}, {span(395, 399), span(500, 400), span(0, 0), api.ErrArg}, {span(395, 399), span(0, 300), span(0, 0), api.ErrArg},
		{span(395, 399), span(lastSecond, lastSecond+1), span(0, 0), api.ErrArg},
	} {
		d := changed(func(d *api.Derby) { d.Homings[1].Judged = c.was })
		want := changed(func(d *api.Derby) { d.Homings[1].Judged = c.want })
		if c.e != api.OK {
			want = api.Derby{}
		}
		if judged, e := velocity.Judge(d, 1, c.w); !reflect.DeepEqual(judged, want) || e != c.e {
			t.Errorf("%d: Judge = %v, %d, not %v", i, judged.Homings, e, want.Homings)
		}
	}
}

// TestJudgeAnything: P7.7, neither lofts nor clocks are asked, nor whether a race is possible.
func TestJudgeAnything(t *testing.T) {
	anything := noRace()
	for name, x := range unanswered() {
		anything[name] = x.d
	}
	for name, x := range unsound() {
		if len(x.d.Homings) > 0 {
			anything[name] = x.d
		}
	}
	for name, d := range anything {
		want := copied(d)
		want.Homings[2].Judged = span(3, 4)
		if judged, e := velocity.Judge(d, 2, span(3, 4)); !reflect.DeepEqual(judged, want) || e != api.OK {
			t.Errorf("%s: Judge = %v, %d", name, judged, e)
		}
	}
}

// copied returns a derby that is equal, nil slices as such.
func copied(d api.Derby) api.Derby {
	d.Map.East, d.Map.Surveys = slices.Clone(d.Map.East), slices.Clone(d.Map.Surveys)
	d.Nights, d.Timers, d.Homings = slices.Clone(d.Nights), slices.Clone(d.Timers), slices.Clone(d.Homings)
	for i := range d.Timers {
		d.Timers[i].Clock.Strikes = slices.Clone(d.Timers[i].Clock.Strikes)
	}
	return d
}

// scribble changes all numbers of a derby that stand in slices, and what is behind their ends.
func scribble(d api.Derby) {
	for i := range d.Timers {
		wipe(d.Timers[i].Clock.Strikes)
	}
	wipe(d.Map.East)
	wipe(d.Map.Surveys)
	wipe(d.Nights)
	wipe(d.Timers)
	wipe(d.Homings)
}

func wipe[T any](l []T) {
	clear(l[:cap(l)])
}

// TestMemory: P1 with R4, no argument is changed, and no result shares memory.
func TestMemory(t *testing.T) {
	strikes := []api.Strike{{At: 0, Shown: span(0, 5)}, {At: 1, Shown: span(1, 1)}}
	roomy := func() api.Derby {
		d := changed(func(d *api.Derby) { d.Timers[0].Clock.Strikes, d.Timers[1].Clock.Strikes = strikes[:1], strikes[:1] })
		d.Homings = append(make([]api.Homing, 0, 20), d.Homings...)
		d.Nights = append(make([]api.Span, 0, 20), d.Nights...)
		return d
	}
	d, before := roomy(), copied(roomy())
	for _, q := range questions() {
		ask(d, q.question)
	}
	if !reflect.DeepEqual(d, before) {
		t.Errorf("the derby is changed: %v", d)
	}
	judged, e := velocity.Judge(d, 1, span(395, 399))
	if e != api.OK {
		t.Fatalf("Judge = %d", e)
	}
	wipe(judged.Timers[0].Clock.Strikes)
	if !slices.Equal(judged.Timers[1].Clock.Strikes, strikes[:1]) {
		t.Errorf("the timers share their strikes")
	}
	scribble(judged)
	if !reflect.DeepEqual(d, before) || strikes[1] != (api.Strike{At: 1, Shown: span(1, 1)}) {
		t.Errorf("the result shares memory with the derby: %v", d)
	}
	judged, _ = velocity.Judge(d, 1, span(395, 399))
	again := copied(judged)
	scribble(d)
	if !reflect.DeepEqual(judged, again) {
		t.Errorf("the derby shares memory with the result: %v", judged)
	}
}

// eachNumber gives a call each number that a value has, also in its slices.
func eachNumber(v reflect.Value, call func(n reflect.Value)) {
	switch v.Kind() {
	case reflect.Int:
		call(v)
	case reflect.Struct:
		for i := range v.NumField() {
			eachNumber(v.Field(i), call)
		}
	case reflect.Slice:
		for i := range v.Len() {
			eachNumber(v.Index(i), call)
		}
	}
}

// TestAnyNumber: P1, no number of a derby lets a function panic, or go on for ever.
func TestAnyNumber(t *testing.T) {
	d := changed(func(d *api.Derby) {
		d.Timers[0].Clock.Strikes = []api.Strike{{At: 0, Shown: span(0, 0)}}
		d.Homings[1].Judged = span(390, 400)
	})
	q := question{1, 2, span(395, 399)}
	eachNumber(reflect.ValueOf(&d).Elem(), func(n reflect.Value) {
		was := n.Int()
		for _, wild := range []int64{math.MinInt, math.MinInt + 1, -1, 0, 1, was - 1, was + 1, math.MaxInt - 1, math.MaxInt} {
			n.SetInt(wild)
			e := raceError(d)
			named := map[string]api.Errno{}
			if got := ask(d, q)["Judge"]; got.e == api.OK || got.e == api.ErrDerby || got.e == api.ErrHoming {
				named["Judge"] = got.e
			}
			expectErrors(t, "any number", ask(d, q), e, named)
		}
		n.SetInt(was)
	})
	for _, wild := range []api.Derby{{}, {Map: api.Map{Lofts: math.MaxInt}, Homings: make([]api.Homing, 1)}, {Timers: make([]api.Timer, 1), Homings: make([]api.Homing, 9)}} {
		ask(wild, question{math.MaxInt, math.MinInt, span(math.MinInt, math.MaxInt)})
		ask(wild, question{0, 0, span(1, 1)})
	}
}
