package clocks_test

import (
	"math"
	"reflect"
	"slices"
	"strconv"
	"testing"

	"squeaker/api"
	"squeaker/clocks"
)

func span(low, high int) api.Span { return api.Span{Low: low, High: high} }

func strike(at, low, high int) api.Strike { return api.Strike{At: at, Shown: span(low, high)} }

func clocking(shown, late int) api.Clocking { return api.Clocking{Shown: shown, Late: late} }

// example is the clock C of the chapter.
func example() api.Clock {
	return api.Clock{Hours: 2, Shown: 1000, Drift: span(-2, 4), Step: 3, Strikes: []api.Strike{strike(3600, 4600, 4602)}}
}

// changed returns the example with something changed.
func changed(change func(c *api.Clock)) api.Clock {
	c := example()
	change(&c)
	return c
}

// with returns the example with more strikes.
func with(more ...api.Strike) api.Clock {
	return changed(func(c *api.Clock) { c.Strikes = append(c.Strikes, more...) })
}

// struck is the clock D of the chapter.
func struck() api.Clock { return with(strike(7200, 8205, 8210)) }

// free returns a clock without strikes that can gain as many seconds as a span says in each hour.
func free(hours, shown, low, high, step int) api.Clock {
	return api.Clock{Hours: hours, Shown: shown, Drift: span(low, high), Step: step}
}

// exact returns a clock that neither gains nor loses.
func exact(hours, shown int) api.Clock { return free(hours, shown, 0, 0, 0) }

// widest can have most truths.
func widest() api.Clock {
	return free(api.MaxHours, api.MaxShown, -api.MaxDrift, api.MaxDrift, api.MaxStep)
}

// falseClocks are valid, but have no truth.
func falseClocks() map[string]api.Clock {
	return map[string]api.Clock{
		"when it was set":           with(strike(0, 1001, 1005)),
		"in the first hour":         with(strike(1800, 2802, 2900)),
		"at the end of the first":   with(strike(3600, 4603, 4700)),
		"in the last hour":          with(strike(5400, 0, 6300)),
		"at the end":                with(strike(7200, 8207, 8300)),
		"between the two hours":     with(strike(3600, 4600, 4600), strike(7200, 8204, 8204)),
		"two that contradict":       with(strike(100, 1100, 1100), strike(3600, 4602, 4602), strike(3600, 4601, 4601)),
		"of one hour":               {Hours: 1, Shown: 0, Drift: span(1, 2), Strikes: []api.Strike{strike(3600, 3600, 3600)}},
		"of many hours":             {Hours: 8, Shown: 5, Drift: span(-9, 9), Step: 18, Strikes: []api.Strike{strike(28800, 28878, 99999)}},
		"in the middle of many":     {Hours: 8, Shown: 5, Drift: span(-9, 9), Step: 18, Strikes: []api.Strike{strike(14400, 0, 14368)}},
		"two hours that go too far": {Hours: 2, Drift: span(-9, 9), Step: 3, Strikes: []api.Strike{strike(3600, 3609, 3609), strike(7200, 7214, 7214)}},
	}
}

// tooFarFrom returns numbers that are not within limits.
func tooFarFrom(low, high int) []int { return []int{low - 1, high + 1, math.MinInt, math.MaxInt} }

// invalid returns clocks each of which breaks one rule, by what is broken.
func invalid() map[string]api.Clock {
	out := map[string]api.Clock{
		"no clock":                 {},
		"a drift that ends first":  changed(func(c *api.Clock) { c.Drift = span(2, 1) }),
		"a strike that ends first": with(strike(1, 1002, 1001)),
		"a strike too many":        with(slices.Repeat([]api.Strike{strike(0, 1000, 1000)}, api.MaxStrikes)...),
		"strikes too many":         with(slices.Repeat(example().Strikes, 99)...),
	}
	for _, c := range []struct {
		name      string
		low, high int
		set       func(c *api.Clock, n int)
	}{
		{"Hours", 1, api.MaxHours, func(c *api.Clock, n int) { c.Hours, c.Strikes = n, nil }},
		{"Shown", 0, api.MaxShown, func(c *api.Clock, n int) { c.Shown = n }},
		{"Drift.Low", -api.MaxDrift, 4, func(c *api.Clock, n int) { c.Drift.Low = n }},
		{"Drift.High", -2, api.MaxDrift, func(c *api.Clock, n int) { c.Drift.High = n }},
		{"Step", 0, api.MaxStep, func(c *api.Clock, n int) { c.Step = n }},
		{"At", 0, 7200, func(c *api.Clock, n int) { c.Strikes[0].At = n }},
		{"At of the last one", 0, 7200, func(c *api.Clock, n int) { c.Strikes = append(c.Strikes, strike(n, 0, api.MaxShown)) }},
		{"Shown.Low", 0, 4602, func(c *api.Clock, n int) { c.Strikes[0].Shown.Low = n }},
		{"Shown.High", 4600, api.MaxShown, func(c *api.Clock, n int) { c.Strikes[0].Shown.High = n }},
	} {
		for _, n := range tooFarFrom(c.low, c.high) {
			out[c.name+" "+strconv.Itoa(n)] = changed(func(one *api.Clock) { c.set(one, n) })
		}
	}
	return out
}

// wrongClockings returns clockings each of which breaks one rule.
func wrongClockings() []api.Clocking {
	var out []api.Clocking
	for _, n := range tooFarFrom(0, api.MaxShown) {
		out = append(out, clocking(n, 5))
	}
	for _, n := range tooFarFrom(0, api.MaxLate) {
		out = append(out, clocking(4000, n))
	}
	return append(out, clocking(-1, -1))
}

// An outcome is what a function returned, without its error, and the error.
type outcome struct {
	results []any
	e       api.Errno
}

// A question is all that the functions ask beside the clock: a real time, a number, and a clocking.
type question struct {
	t, shown int
	x        api.Clocking
}

// ask calls each function of a clock.
func ask(c api.Clock, q question) map[string]outcome {
	out := map[string]outcome{"Check": {nil, clocks.Check(c)}}
	put := func(name string, e api.Errno, result any) {
		out[name] = outcome{[]any{tidy(result)}, e}
	}
	n, e := clocks.Many(c)
	put("Many", e, n)
	n, e = clocks.Fewest(c)
	put("Fewest", e, n)
	s, e := clocks.Reading(c, q.t)
	put("Reading", e, s)
	s, e = clocks.When(c, q.shown)
	put("When", e, s)
	gains, e := clocks.Show(c)
	put("Show", e, gains)
	spans, e := clocks.Gains(c)
	put("Gains", e, spans)
	s, e = clocks.Home(c, q.x)
	put("Home", e, s)
	n, e = clocks.Ahead(c, q.x, exact(2, 0), clocking(7200, 0))
	put("Ahead", e, n)
	n, e = clocks.Ahead(exact(2, 0), clocking(7200, 0), c, q.x)
	put("Ahead, second", e, n)
	return out
}

// tidy returns a result, but nil for an empty slice, which is the same.
func tidy(result any) any {
	v := reflect.ValueOf(result)
	if v.Kind() == reflect.Slice && v.Len() == 0 {
		return reflect.Zero(v.Type()).Interface()
	}
	return result
}

// expectErrors checks the errors of all functions: others, but for those that are named; and the zero values.
func expectErrors(t *testing.T, name string, got map[string]outcome, others api.Errno, named map[string]api.Errno) {
	t.Helper()
	for function, o := range got {
		want, ok := named[function]
		if !ok {
			want = others
		}
		if o.e != want {
			t.Errorf("%s: %s has the error %d, not %d", name, function, o.e, want)
		}
		for _, r := range o.results {
			if o.e != api.OK && !reflect.ValueOf(r).IsZero() {
				t.Errorf("%s: %s returns %v with an error", name, function, r)
			}
		}
	}
}

// each returns an error for some functions.
func each(e api.Errno, functions ...string) map[string]api.Errno {
	out := map[string]api.Errno{}
	for _, function := range functions {
		out[function] = e
	}
	return out
}

// wrongQuestions returns questions to clocks of two hours, in each of which a real time or a number is not as described,
// or a clocking is not valid, and the errors of the functions that ask for it.
func wrongQuestions() (questions []question, errors []map[string]api.Errno) {
	right := question{3600, 4600, clocking(4600, 5)}
	add := func(q question, e map[string]api.Errno) {
		questions = append(questions, q)
		errors = append(errors, e)
	}
	for _, n := range append([]int{api.MaxHours * 3600}, tooFarFrom(0, 7200)...) {
		add(question{n, right.shown, right.x}, each(api.ErrArg, "Reading"))
	}
	for _, n := range tooFarFrom(0, api.MaxShown) {
		add(question{right.t, n, right.x}, each(api.ErrArg, "When"))
	}
	for _, x := range wrongClockings() {
		add(question{right.t, right.shown, x}, each(api.ErrClocking, "Home", "Ahead", "Ahead, second"))
	}
	return questions, errors
}

// TestErrors: P1, with the errors in their order and zero values beside them.
func TestErrors(t *testing.T) {
	right := question{3600, 4600, clocking(4600, 5)}
	questions, errors := wrongQuestions()
	for _, q := range append(questions, right, question{}) {
		for name, c := range invalid() {
			expectErrors(t, name, ask(c, q), api.ErrClock, nil)
		}
	}
	for i, q := range questions {
		expectErrors(t, "example", ask(example(), q), api.OK, errors[i])
	}
	expectErrors(t, "example", ask(example(), right), api.OK, nil)
	expectErrors(t, "example", ask(example(), question{}), api.OK, nil)
	late := question{7200, 8206, clocking(8206, api.MaxLate)}
	expectErrors(t, "no moment in some truth", ask(example(), late), api.OK, each(api.ErrNone, "When", "Home", "Ahead", "Ahead, second"))
}

// TestNoTruth: P1, a clock that has no truth.
func TestNoTruth(t *testing.T) {
	always := each(api.OK, "Check", "Many", "Fewest")
	questions, errors := wrongQuestions()
	for name, c := range falseClocks() {
		expectErrors(t, name, ask(c, question{}), api.ErrNone, always)
		expectErrors(t, name, ask(c, question{3600, 4600, clocking(4600, 5)}), api.ErrNone, always)
		expectErrors(t, name, ask(c, question{7200, 99999, clocking(99999, 600)}), api.ErrNone, withHours(c, always))
		if n, e := clocks.Many(c); n != 0 || e != api.OK {
			t.Errorf("%s: Many = %d, %d", name, n, e)
		}
		if c.Hours != 2 {
			continue
		}
		for i, q := range questions {
			for function, e := range always {
				errors[i][function] = e
			}
			expectErrors(t, name, ask(c, q), api.ErrNone, errors[i])
		}
	}
}

// withHours returns errors, and that of Reading at 7200 if a clock does not run so long.
func withHours(c api.Clock, errors map[string]api.Errno) map[string]api.Errno {
	if c.Hours > 1 {
		return errors
	}
	out := each(api.ErrArg, "Reading")
	for function, e := range errors {
		out[function] = e
	}
	return out
}

// TestCheck: P4.1.
func TestCheck(t *testing.T) {
	for name, c := range invalid() {
		if e := clocks.Check(c); e != api.ErrClock {
			t.Errorf("%s: Check = %d", name, e)
		}
	}
	for name, c := range falseClocks() {
		if e := clocks.Check(c); e != api.OK {
			t.Errorf("%s: Check = %d", name, e)
		}
	}
	for i, c := range []api.Clock{
		example(), struck(), exact(1, 0), exact(api.MaxHours, api.MaxShown), widest(),
		free(1, 0, -api.MaxDrift, -api.MaxDrift, 0), free(1, 0, api.MaxDrift, api.MaxDrift, api.MaxStep),
		changed(func(c *api.Clock) { c.Strikes = []api.Strike{} }),
		with(slices.Repeat(example().Strikes, api.MaxStrikes-1)...),
		with(strike(0, 0, 0), strike(7200, 0, api.MaxShown), strike(7200, api.MaxShown, api.MaxShown)),
		{Hours: 8, Strikes: []api.Strike{strike(28800, 0, 1)}},
	} {
		if e := clocks.Check(c); e != api.OK {
			t.Errorf("%d: Check = %d", i, e)
		}
	}
}

// TestMany: P4.2.
func TestMany(t *testing.T) {
	for i, c := range []struct {
		c    api.Clock
		want int
	}{
		{example(), 19}, {struck(), 3}, {exact(1, 0), 1}, {exact(8, 99999), 1},
		{free(1, 0, -2, 4, 0), 7}, {free(8, 0, -2, 4, 0), 7}, {free(2, 0, -2, 4, 1), 19}, {free(2, 0, -2, 4, 6), 49},
		{free(8, 0, 0, 1, 1), 256}, {free(3, 0, 0, 2, 1), 17}, {widest(), 16983563041},
		{free(2, 0, -9, 9, 17), 359}, {free(2, 0, -9, 9, 18), 361}, {free(1, 0, -9, 9, 0), 19},
		{changed(func(c *api.Clock) { c.Step = 0 }), 3}, {changed(func(c *api.Clock) { c.Step = 4 }), 21},
		// the same strike twice, and one that says less
		{with(strike(3600, 4600, 4602)), 19}, {with(strike(3600, 0, 9999)), 19}, {with(strike(0, 1000, 1000)), 19},
		// within an hour some gains look alike
		{with(strike(1800, 2800, 2800)), 13}, {with(strike(1800, 2801, 2801)), 6}, {with(strike(3599, 4599, 4599)), 13},
		// at the end of an hour, and just after it
		{with(strike(3601, 4601, 4601)), 6}, {with(strike(7200, 8200, 8200)), 2}, {with(strike(7199, 8199, 8199)), 3},
		{with(strike(0, 999, 999)), 0}, {with(strike(0, 1001, 99999)), 0},
	} {
		if n, e := clocks.Many(c.c); n != c.want || e != api.OK {
			t.Errorf("%d: Many = %d, %d, not %d", i, n, e, c.want)
		}
	}
}

// TestFewest: P4.3.
func TestFewest(t *testing.T) {
	for i, c := range []struct {
		c    api.Clock
		want int
	}{
		{example(), 0}, {struck(), 0}, {exact(1, 0), 0}, {widest(), 0},
		{with(strike(3600, 4605, 4605)), 1}, {changed(func(c *api.Clock) { c.Strikes[0] = strike(3600, 4605, 4605) }), 1},
		// each of two equal strikes is wrong
		{with(strike(3600, 4605, 4605), strike(3600, 4605, 4605)), 2},
		// the one that most others contradict
		{with(strike(3600, 4603, 4604), strike(3600, 4604, 4604)), 1},
		{with(strike(0, 1000, 1001), strike(0, 999, 999), strike(0, 1001, 1002)), 2},
		// early hours must lead to late ones
		{with(strike(7200, 8207, 8207)), 1}, {with(strike(7200, 8206, 8206)), 0},
		{with(strike(1, 1001, 1001), strike(1800, 2801, 2801), strike(7200, 8199, 8199), strike(7199, 8197, 8198)), 1},
		{changed(func(c *api.Clock) { c.Step, c.Strikes = 0, append(c.Strikes, strike(7200, 8199, 8199)) }), 1},
		{with(slices.Repeat([]api.Strike{strike(7200, 0, 0)}, api.MaxStrikes-1)...), api.MaxStrikes - 1},
		{api.Clock{Hours: 1, Strikes: slices.Repeat([]api.Strike{strike(0, 1, 1)}, api.MaxStrikes)}, api.MaxStrikes},
	} {
		if n, e := clocks.Fewest(c.c); n != c.want || e != api.OK {
			t.Errorf("%d: Fewest = %d, %d, not %d", i, n, e, c.want)
		}
	}
	for name, c := range falseClocks() {
		if n, e := clocks.Fewest(c); n != 1 || e != api.OK {
			t.Errorf("%s: Fewest = %d, %d", name, n, e)
		}
	}
}

// TestReading: P4.4.
func TestReading(t *testing.T) {
	for i, c := range []struct {
		c    api.Clock
		t    int
		want api.Span
	}{
		{example(), 0, span(1000, 1000)}, {example(), 1, span(1001, 1001)}, {example(), 1800, span(2800, 2801)},
		{example(), 3599, span(4599, 4600)}, {example(), 3600, span(4600, 4602)}, {example(), 3601, span(4600, 4603)},
		{example(), 7199, span(8197, 8204)}, {example(), 7200, span(8198, 8206)},
		{struck(), 3600, span(4601, 4602)}, {struck(), 7200, span(8205, 8206)},
		// a loss is rounded down, too
		{free(1, 0, -1, -1, 0), 0, span(0, 0)}, {free(1, 0, -1, -1, 0), 1, span(0, 0)}, {free(1, 0, -1, -1, 0), 2, span(1, 1)},
		{free(1, 0, -1, -1, 0), 3599, span(3598, 3598)}, {free(1, 0, -1, -1, 0), 3600, span(3599, 3599)},
		{free(1, 0, 1, 1, 0), 3599, span(3599, 3599)}, {free(1, 0, 1, 1, 0), 3600, span(3601, 3601)},
		// each hour is rounded alone
		{free(2, 0, 1, 1, 0), 5400, span(5401, 5401)}, {free(2, 0, -1, -1, 0), 5400, span(5398, 5398)},
		{widest(), 28800, span(99999+28800-72, 99999+28800+72)}, {widest(), 27000, span(99999+27000-68, 99999+27000+67)},
		{exact(8, 99999), 28800, span(128799, 128799)},
		// what the last hour shows tells of the first one
		{with(strike(7200, 8206, 8206)), 3600, span(4602, 4602)}, {with(strike(7200, 8198, 8198)), 1800, span(2800, 2800)},
		{changed(func(c *api.Clock) { c.Hours, c.Step = 3, 0 }), 10800, span(11800, 11806)},
	} {
		if s, e := clocks.Reading(c.c, c.t); s != c.want || e != api.OK {
			t.Errorf("%d: Reading = %v, %d, not %v", i, s, e, c.want)
		}
	}
}

// TestWhen: P4.5.
func TestWhen(t *testing.T) {
	for i, c := range []struct {
		c     api.Clock
		shown int
		want  api.Span
	}{
		{struck(), 4600, span(3599, 3600)}, {struck(), 4601, span(3600, 3600)}, {struck(), 8200, span(7195, 7196)},
		// what it showed at first, and less
		{struck(), 0, span(0, 0)}, {struck(), 999, span(0, 0)}, {struck(), 1000, span(0, 0)}, {struck(), 1001, span(1, 1)},
		{widest(), 0, span(0, 0)}, {widest(), api.MaxShown, span(0, 0)},
		// the last number that it shows in each truth
		{struck(), 8205, span(7200, 7200)}, {example(), 8198, span(7193, 7200)}, {exact(1, 0), 3600, span(3600, 3600)},
		{exact(8, 99999-28800), 99999, span(28800, 28800)}, {free(8, 0, -9, 9, 18), 28728, span(28657, 28800)},
		// a clock that loses shows a number for two seconds, one that gains leaves one out
		{free(1, 0, -1, -1, 0), 0, span(0, 0)}, {free(1, 0, -1, -1, 0), 1, span(2, 2)}, {free(1, 0, -1, -1, 0), 3599, span(3600, 3600)},
		{free(1, 0, 1, 1, 0), 3600, span(3600, 3600)}, {free(1, 0, 1, 1, 0), 3601, span(3600, 3600)},
		{free(2, 0, -9, 9, 0), 3600, span(3592, 3610)},
	} {
		if s, e := clocks.When(c.c, c.shown); s != c.want || e != api.OK {
			t.Errorf("%d: When of %d = %v, %d, not %v", i, c.shown, s, e, c.want)
		}
	}
	for i, c := range []struct {
		c     api.Clock
		shown int
	}{
		{example(), 8199}, {example(), 8206}, {example(), 8207}, {struck(), 8206}, {struck(), 8207}, {struck(), api.MaxShown},
		{exact(1, 0), 3601}, {free(1, 0, 1, 2, 1), 3602}, {free(8, 0, -9, 9, 18), 28729}, {exact(8, 0), api.MaxShown},
	} {
		if s, e := clocks.When(c.c, c.shown); s != span(0, 0) || e != api.ErrNone {
			t.Errorf("%d: When of %d = %v, %d", i, c.shown, s, e)
		}
	}
}

// TestShow: P4.6.
func TestShow(t *testing.T) {
	for i, c := range []api.Clock{
		example(), struck(), exact(1, 0), exact(8, 5), free(2, 0, -9, 9, 0), free(3, 7, 4, 6, 1),
		with(strike(7200, 8206, 8206)), with(strike(7200, 8198, 8198)), with(strike(3601, 4601, 4601)), with(strike(5400, 6402, 6402)),
		free(8, 0, -2, 1, 1), {Hours: 4, Drift: span(-3, 3), Step: 2, Strikes: []api.Strike{strike(14400, 14412, 14412)}},
		{Hours: 4, Drift: span(-3, 3), Step: 6, Strikes: []api.Strike{strike(7200, 7206, 7206), strike(14400, 14400, 14400)}},
	} {
		gains, e := clocks.Show(c)
		if e != api.OK || !isTruth(c, gains) {
			t.Errorf("%d: Show = %v, %d", i, gains, e)
		}
	}
}

// TestGains: P4.7.
func TestGains(t *testing.T) {
	for i, c := range []struct {
		c    api.Clock
		want []api.Span
	}{
		{example(), []api.Span{span(0, 2), span(-2, 4)}}, {struck(), []api.Span{span(1, 2), span(3, 4)}},
		{exact(1, 0), []api.Span{span(0, 0)}}, {free(1, 0, -9, 9, 0), []api.Span{span(-9, 9)}},
		{widest(), slices.Repeat([]api.Span{span(-9, 9)}, 8)}, {free(3, 0, 2, 5, 1), slices.Repeat([]api.Span{span(2, 5)}, 3)},
		{with(strike(7200, 8206, 8206)), []api.Span{span(2, 2), span(4, 4)}},
		{with(strike(7200, 8200, 8200)), []api.Span{span(0, 1), span(-1, 0)}},
		{changed(func(c *api.Clock) { c.Step = 0 }), []api.Span{span(0, 2), span(0, 2)}},
		{changed(func(c *api.Clock) { c.Hours, c.Step = 4, 1 }), []api.Span{span(0, 2), span(-1, 3), span(-2, 4), span(-2, 4)}},
		{api.Clock{Hours: 2, Drift: span(-2, 1), Step: 2, Strikes: []api.Strike{strike(7200, 7200, 7200)}}, []api.Span{span(-1, 1), span(-1, 1)}},
	} {
		got, e := clocks.Gains(c.c)
		if !slices.Equal(got, c.want) || e != api.OK {
			t.Errorf("%d: Gains = %v, %d, not %v", i, got, e, c.want)
		}
	}
}

// TestHome: P4.8.
func TestHome(t *testing.T) {
	for i, c := range []struct {
		c           api.Clock
		shown, late int
		want        api.Span
	}{
		{struck(), 8200, 60, span(7135, 7196)}, {struck(), 8200, 0, span(7195, 7196)}, {struck(), 8200, api.MaxLate, span(6595, 7196)},
		{struck(), 4600, 1, span(3598, 3600)}, {struck(), 8205, 0, span(7200, 7200)},
		// not before the clock was set
		{struck(), 1000, 600, span(0, 0)}, {struck(), 0, 600, span(0, 0)}, {struck(), 1060, 60, span(0, 60)},
		{struck(), 1060, 59, span(1, 60)}, {struck(), 1060, 61, span(0, 60)}, {struck(), 1060, 600, span(0, 60)},
		{exact(8, 71199), 99999, 600, span(28200, 28800)}, {exact(1, 0), 0, 0, span(0, 0)},
	} {
		if s, e := clocks.Home(c.c, clocking(c.shown, c.late)); s != c.want || e != api.OK {
			t.Errorf("%d: Home = %v, %d, not %v", i, s, e, c.want)
		}
	}
	for i, c := range []struct {
		c     api.Clock
		shown int
	}{{example(), 8199}, {struck(), 8206}, {exact(1, 0), 3601}, {exact(8, 0), api.MaxShown}} {
		if s, e := clocks.Home(c.c, clocking(c.shown, 600)); s != span(0, 0) || e != api.ErrNone {
			t.Errorf("%d: Home = %v, %d", i, s, e)
		}
	}
}

// TestAhead: P4.9.
func TestAhead(t *testing.T) {
	for i, c := range []struct {
		a    api.Clock
		x    api.Clocking
		b    api.Clock
		y    api.Clocking
		want int
	}{
		// the first one was home from 7135 to 7196
		{struck(), clocking(8200, 60), exact(2, 0), clocking(7197, 0), api.SurelyAhead},
		{struck(), clocking(8200, 60), exact(2, 0), clocking(7196, 0), api.OpenAhead},
		{struck(), clocking(8200, 60), exact(2, 0), clocking(7199, 2), api.SurelyAhead},
		{struck(), clocking(8200, 60), exact(2, 0), clocking(7199, 3), api.OpenAhead},
		{struck(), clocking(8200, 60), exact(2, 0), clocking(7160, 0), api.OpenAhead},
		{struck(), clocking(8200, 60), exact(2, 0), clocking(7135, 600), api.OpenAhead},
		{struck(), clocking(8200, 60), exact(2, 0), clocking(7134, 0), api.SurelyBehind},
		{struck(), clocking(8200, 60), exact(2, 0), clocking(7134, 600), api.SurelyBehind},
		{exact(2, 0), clocking(7197, 0), struck(), clocking(8200, 60), api.SurelyBehind},
		{exact(2, 0), clocking(7134, 9), struck(), clocking(8200, 60), api.SurelyAhead},
		// in the same second nobody is ahead
		{exact(1, 0), clocking(77, 0), exact(1, 0), clocking(77, 0), api.OpenAhead},
		{exact(1, 0), clocking(77, 0), exact(8, 100), clocking(177, 0), api.OpenAhead},
		{exact(1, 0), clocking(77, 0), exact(8, 100), clocking(178, 0), api.SurelyAhead},
		{exact(1, 0), clocking(0, 0), exact(1, 50), clocking(50, 600), api.OpenAhead},
		{exact(1, 0), clocking(0, 600), exact(1, 50), clocking(51, 0), api.SurelyAhead},
		// nothing is known of two clocks together, even if they are equal
		{free(2, 0, -2, 2, 4), clocking(7000, 0), free(2, 0, -2, 2, 4), clocking(7001, 0), api.OpenAhead},
		{free(2, 0, -2, 2, 4), clocking(7000, 0), free(2, 0, -2, 2, 4), clocking(7009, 0), api.SurelyAhead},
	} {
		if n, e := clocks.Ahead(c.a, c.x, c.b, c.y); n != c.want || e != api.OK {
			t.Errorf("%d: Ahead = %d, %d, not %d", i, n, e, c.want)
		}
	}
}

// TestAheadErrors: P4.9 and P1, the errors of Ahead in their order.
func TestAheadErrors(t *testing.T) {
	right, late, wrong := clocking(4600, 5), clocking(8207, 5), clocking(4600, -1)
	bad, none := changed(func(c *api.Clock) { c.Step = 19 }), with(strike(0, 0, 0))
	for i, c := range []struct {
		a    api.Clock
		x    api.Clocking
		b    api.Clock
		y    api.Clocking
		want api.Errno
	}{
		{bad, right, example(), right, api.ErrClock}, {example(), right, bad, right, api.ErrClock},
		{bad, wrong, example(), wrong, api.ErrClock}, {example(), wrong, bad, wrong, api.ErrClock}, {none, wrong, bad, right, api.ErrClock},
		{example(), wrong, example(), right, api.ErrClocking}, {example(), right, example(), wrong, api.ErrClocking},
		{none, right, example(), wrong, api.ErrClocking}, {none, wrong, none, right, api.ErrClocking},
		{example(), late, example(), wrong, api.ErrClocking}, {example(), wrong, example(), late, api.ErrClocking},
		{none, right, example(), right, api.ErrNone}, {example(), right, none, right, api.ErrNone},
		{example(), late, example(), right, api.ErrNone}, {example(), right, example(), late, api.ErrNone},
	} {
		if n, e := clocks.Ahead(c.a, c.x, c.b, c.y); n != 0 || e != c.want {
			t.Errorf("%d: Ahead = %d, %d, not %d", i, n, e, c.want)
		}
	}
}

// TestMemory: P1 with R4, no argument is changed, and no result shares memory.
func TestMemory(t *testing.T) {
	// not in their order, and with memory behind them
	strikes := []api.Strike{strike(7200, 8205, 8210), strike(3600, 4600, 4602), strike(1, 2, 3), {}}
	before := slices.Clone(strikes)
	c := changed(func(c *api.Clock) { c.Strikes = strikes[:2] })
	ask(c, question{3600, 4600, clocking(4600, 5)})
	if !slices.Equal(strikes, before) {
		t.Errorf("the strikes are changed: %v", strikes)
	}
	gains, _ := clocks.Show(c)
	gains[0] = 77
	spans, _ := clocks.Gains(c)
	spans[0] = span(77, 77)
	again, _ := clocks.Show(c)
	spansAgain, _ := clocks.Gains(c)
	if again[0] == 77 || spansAgain[0] == span(77, 77) {
		t.Errorf("results share memory: %v, %v", again, spansAgain)
	}
}
