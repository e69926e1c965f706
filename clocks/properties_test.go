package clocks_test

import (
	"math/rand"
	"reflect"
	"slices"
	"testing"

	"squeaker/api"
	"squeaker/clocks"
)

const rounds = 150

// eachClock gives a test many clocks, always the same ones; a good part of them has several truths, and another one
// has none.
func eachClock(t *testing.T, test func(r *rand.Rand, c api.Clock)) {
	t.Helper()
	r := rand.New(rand.NewSource(4))
	several, none := 0, 0
	for range rounds {
		c := randomClock(r)
		if e := clocks.Check(c); e != api.OK {
			t.Fatalf("Check has the error %d of %+v", e, c)
		}
		switch n, _ := clocks.Many(c); {
		case n > 1:
			several++
		case n == 0:
			none++
		}
		before := slices.Clone(c.Strikes)
		test(r, c)
		if !slices.Equal(before, c.Strikes) {
			t.Errorf("the strikes are changed")
		}
		if t.Failed() {
			t.Fatalf("the clock: %+v, the strikes: %v", c, before)
		}
	}
	if several < rounds/3 || none < rounds/10 {
		t.Fatalf("of %d clocks %d have several truths, and %d have none", rounds, several, none)
	}
}

// eachTime calls a function for real times of a clock, those at the ends of hours among them.
func eachTime(r *rand.Rand, c api.Clock, call func(t int)) {
	for i := range c.Hours + 1 {
		for t := max(0, 3600*i-1); t <= min(c.Hours*3600, 3600*i+1); t++ {
			call(t)
		}
	}
	for range 5 {
		call(r.Intn(c.Hours*3600 + 1))
	}
}

// numbersOf returns numbers that a clock can show, and some that it cannot.
func numbersOf(r *rand.Rand, c api.Clock) []int {
	numbers := []int{0, c.Shown, c.Shown + 1, api.MaxShown}
	for range 12 {
		numbers = append(numbers, min(api.MaxShown, randomNumber(r, c)))
	}
	return numbers
}

// isWithin tells whether a span is a part of another one.
func isWithin(part, all api.Span) bool {
	return all.Low <= part.Low && part.Low <= part.High && part.High <= all.High
}

// TestModel: P4.2 to P4.8, everything is what the definitions say, truth by truth.
func TestModel(t *testing.T) {
	eachClock(t, func(r *rand.Rand, c api.Clock) {
		all := runs(c)
		if n, e := clocks.Many(c); n != len(all) || e != api.OK {
			t.Errorf("Many = %d, %d, not %d", n, e, len(all))
		}
		want := len(c.Strikes)
		for _, gains := range sequences(c) {
			want = min(want, falseStrikes(c, gains))
		}
		if n, e := clocks.Fewest(c); n != want || e != api.OK {
			t.Errorf("Fewest = %d, %d, not %d", n, e, want)
		}
		modelMoments(t, r, c, all)
		if len(all) == 0 {
			expectErrors(t, "no truth", ask(c, question{}), api.ErrNone, each(api.OK, "Check", "Many", "Fewest"))
			return
		}
		modelReading(t, r, c, all)
		modelGains(t, c, all)
	})
}

func modelReading(t *testing.T, r *rand.Rand, c api.Clock, all []run) {
	eachTime(r, c, func(at int) {
		var numbers []int
		for _, one := range all {
			numbers = append(numbers, one.shows[at])
		}
		if s, e := clocks.Reading(c, at); s != bounds(numbers) || e != api.OK {
			t.Errorf("Reading at %d = %v, %d, not %v", at, s, e, bounds(numbers))
		}
	})
}

func modelGains(t *testing.T, c api.Clock, all []run) {
	var want []api.Span
	for i := range c.Hours {
		var numbers []int
		for _, one := range all {
			numbers = append(numbers, one.gains[i])
		}
		want = append(want, bounds(numbers))
	}
	if got, e := clocks.Gains(c); !slices.Equal(got, want) || e != api.OK {
		t.Errorf("Gains = %v, %d, not %v", got, e, want)
	}
	if gains, e := clocks.Show(c); !isTruth(c, gains) || e != api.OK {
		t.Errorf("Show = %v, %d", gains, e)
	}
}

func modelMoments(t *testing.T, r *rand.Rand, c api.Clock, all []run) {
	for _, number := range numbersOf(r, c) {
		want, wantError := modelWhen(all, number)
		if s, e := clocks.When(c, number); s != want || e != wantError {
			t.Errorf("When of %d = %v, %d, not %v, %d", number, s, e, want, wantError)
		}
		x := clocking(number, r.Intn(1+r.Intn(api.MaxLate+1)))
		if wantError == api.OK {
			want = bounds(homes(all, x))
		}
		if s, e := clocks.Home(c, x); s != want || e != wantError {
			t.Errorf("Home of %v = %v, %d, not %v, %d", x, s, e, want, wantError)
		}
	}
}

// eachTwo gives a test two clocks, and clockings of birds that came home at about the same time, most of which have
// moments.
func eachTwo(t *testing.T, test func(a api.Clock, x api.Clocking, b api.Clock, y api.Clocking)) {
	t.Helper()
	r := rand.New(rand.NewSource(5))
	answers := map[int]int{}
	for range 3 * rounds {
		a, b := randomClock(r), randomClock(r)
		x := randomClocking(r, a)
		y := clocking(max(0, x.Shown-a.Shown+b.Shown+r.Intn(41)-20), r.Intn(1+x.Late))
		if n, e := clocks.Ahead(a, x, b, y); e == api.OK {
			answers[n]++
		}
		test(a, x, b, y)
		if t.Failed() {
			t.Fatalf("the clocks: %+v, %+v, the clockings: %v, %v", a, b, x, y)
		}
	}
	for _, n := range []int{api.SurelyAhead, api.SurelyBehind, api.OpenAhead} {
		if answers[n] < rounds/10 {
			t.Fatalf("the answers: %v", answers)
		}
	}
}

// TestAheadModel: P4.9 and P4.18, who is ahead is what all real times say at which the birds can have come home.
func TestAheadModel(t *testing.T) {
	eachTwo(t, func(a api.Clock, x api.Clocking, b api.Clock, y api.Clocking) {
		n, e := clocks.Ahead(a, x, b, y)
		allA, allB := runs(a), runs(b)
		_, eA := modelWhen(allA, x.Shown)
		_, eB := modelWhen(allB, y.Shown)
		if eA != api.OK || eB != api.OK {
			if n != 0 || e != api.ErrNone {
				t.Errorf("Ahead = %d, %d", n, e)
			}
			return
		}
		ahead, behind := true, true
		first, second := homes(allA, x), homes(allB, y)
		for _, tA := range first {
			for _, tB := range second {
				ahead, behind = ahead && tA < tB, behind && tA > tB
			}
		}
		if e != api.OK || ahead != (n == api.SurelyAhead) || behind != (n == api.SurelyBehind) || (!ahead && !behind) != (n == api.OpenAhead) {
			t.Errorf("Ahead = %d, %d, and ahead: %t, behind: %t", n, e, ahead, behind)
		}
	})
}

// TestWhoIsAhead: P4.18.
func TestWhoIsAhead(t *testing.T) {
	other := map[int]int{0: 0, api.SurelyAhead: api.SurelyBehind, api.SurelyBehind: api.SurelyAhead, api.OpenAhead: api.OpenAhead}
	eachTwo(t, func(a api.Clock, x api.Clocking, b api.Clock, y api.Clocking) {
		n, e := clocks.Ahead(a, x, b, y)
		m, f := clocks.Ahead(b, y, a, x)
		if m != other[n] || f != e {
			t.Errorf("Ahead = %d, %d, and of the other one %d, %d", n, e, m, f)
		}
		if n == api.SurelyAhead {
			first, _ := clocks.Home(a, x)
			second, _ := clocks.Home(b, y)
			if first.High >= second.Low {
				t.Errorf("Ahead = %d, and home from %v, and from %v", n, first, second)
			}
		}
	})
}

// TestEachTruth: P4.10.
func TestEachTruth(t *testing.T) {
	eachClock(t, func(r *rand.Rand, c api.Clock) {
		numbers := numbersOf(r, c)
		gains, _ := clocks.Gains(c)
		for _, one := range runs(c) {
			eachTime(r, c, func(at int) {
				if s, e := clocks.Reading(c, at); e != api.OK || !isWithin(span(one.shows[at], one.shows[at]), s) {
					t.Errorf("Reading at %d = %v, %d, and it shows %d", at, s, e, one.shows[at])
				}
			})
			for i, gain := range one.gains {
				if !isWithin(span(gain, gain), gains[i]) {
					t.Errorf("Gains = %v, and in %d it is %d", gains, i, gain)
				}
			}
			for _, number := range numbers {
				eachTruthHome(t, r, c, one, number)
			}
		}
	})
}

// eachTruthHome checks the moment of a number in a truth, and that of a bird that came home before.
func eachTruthHome(t *testing.T, r *rand.Rand, c api.Clock, one run, number int) {
	moment, ok := one.moment(number)
	s, e := clocks.When(c, number)
	if e == api.OK && (!ok || !isWithin(span(moment, moment), s)) || !ok && e != api.ErrNone {
		t.Errorf("When of %d = %v, %d, and it is %d", number, s, e, moment)
	}
	late := r.Intn(api.MaxLate + 1)
	before := max(0, moment-r.Intn(late+1))
	home, f := clocks.Home(c, clocking(number, late))
	if f != e || e == api.OK && !isWithin(span(before, before), home) {
		t.Errorf("Home of %d, %d late = %v, %d, and it was %d", number, late, home, f, before)
	}
}

// TestLater: P4.11.
func TestLater(t *testing.T) {
	eachClock(t, func(r *rand.Rand, c api.Clock) {
		eachTime(r, c, func(at int) {
			later := min(c.Hours*3600, at+r.Intn(1+r.Intn(4000)))
			a, _ := clocks.Reading(c, at)
			b, _ := clocks.Reading(c, later)
			if b.Low < a.Low || b.High < a.High {
				t.Errorf("Reading at %d = %v, and at %d = %v", at, a, later, b)
			}
		})
		numbers := ordered(numbersOf(r, c))
		for i := range len(numbers) - 1 {
			a, e := clocks.When(c, numbers[i])
			b, f := clocks.When(c, numbers[i+1])
			if e != api.OK && f == api.OK || f == api.OK && (b.Low < a.Low || b.High < a.High) {
				t.Errorf("When of %d = %v, %d, and of %d = %v, %d", numbers[i], a, e, numbers[i+1], b, f)
			}
		}
	})
}

func ordered(numbers []int) []int {
	numbers = slices.Clone(numbers)
	slices.Sort(numbers)
	return numbers
}

// TestThereAndBack: P4.12.
func TestThereAndBack(t *testing.T) {
	eachClock(t, func(r *rand.Rand, c api.Clock) {
		eachTime(r, c, func(at int) {
			s, e := clocks.Reading(c, at)
			if e != api.OK || s.High >= api.MaxShown {
				return
			}
			if least, e := clocks.When(c, s.Low); e != api.OK || least.Low > at || least.High > at {
				t.Errorf("Reading at %d = %v, When of the least number %v, %d", at, s, least, e)
			}
			if more, e := clocks.When(c, s.High+1); e == api.OK && more.Low <= at {
				t.Errorf("Reading at %d = %v, When of one more %v", at, s, more)
			}
		})
	})
}

// TestMoreKnown: P4.13.
func TestMoreKnown(t *testing.T) {
	narrower := 0
	eachClock(t, func(r *rand.Rand, c api.Clock) {
		struck := c
		struck.Strikes = append(slices.Clone(c.Strikes), randomStrike(r, c))
		narrower += expectWithin(t, r, struck, c)
		free := c
		free.Step += 1 + r.Intn(api.MaxStep-c.Step)
		narrower += expectWithin(t, r, c, free)
	})
	if narrower < 5*rounds {
		t.Errorf("only %d spans are narrower", narrower)
	}
}

// expectWithin checks that no span of a clock of which more is known is wider than that of another one, and returns how
// many are narrower.
func expectWithin(t *testing.T, r *rand.Rand, known, c api.Clock) int {
	t.Helper()
	few, _ := clocks.Many(known)
	if many, _ := clocks.Many(c); few > many {
		t.Errorf("Many = %d, and with less known %d", few, many)
	}
	if few == 0 {
		return 0
	}
	narrower := 0
	expect := func(name string, part, all api.Span, e, f api.Errno) {
		if f == api.OK && (e != api.OK || !isWithin(part, all)) {
			t.Errorf("%s = %v, %d, and with less known %v, of %+v", name, part, e, all, known)
		}
		if f == api.OK && part != all {
			narrower++
		}
	}
	eachTime(r, c, func(at int) {
		part, e := clocks.Reading(known, at)
		all, f := clocks.Reading(c, at)
		expect("Reading", part, all, e, f)
	})
	for _, number := range numbersOf(r, c) {
		part, e := clocks.When(known, number)
		all, f := clocks.When(c, number)
		expect("When", part, all, e, f)
		part, e = clocks.Home(known, clocking(number, 5))
		all, f = clocks.Home(c, clocking(number, 5))
		expect("Home", part, all, e, f)
	}
	parts, e := clocks.Gains(known)
	alls, f := clocks.Gains(c)
	for i, all := range alls {
		expect("Gains", parts[i], all, e, f)
	}
	return narrower
}

// expectSame checks that two clocks answer the same to all questions, if what the second one shows is greater by a
// number.
func expectSame(t *testing.T, r *rand.Rand, a, b api.Clock, more int) {
	t.Helper()
	expect := func(was, is map[string]outcome) {
		for function := range was {
			if !reflect.DeepEqual(was[function], is[function]) {
				t.Errorf("%s = %v, and was %v, with %d more of %+v", function, is[function], was[function], more, b)
			}
		}
	}
	// A moment is the same, and a reading is greater.
	moved := func(out map[string]outcome) map[string]outcome {
		if o := out["Reading"]; o.e == api.OK {
			s := o.results[0].(api.Span)
			out["Reading"] = outcome{[]any{span(s.Low+more, s.High+more)}, o.e}
		}
		return out
	}
	eachTime(r, a, func(at int) {
		shown, x := min(randomNumber(r, a), api.MaxShown-more), randomClocking(r, a)
		x.Shown = min(x.Shown, api.MaxShown-more)
		y := x
		y.Shown += more
		expect(moved(ask(a, question{at, shown, x})), ask(b, question{at, shown + more, y}))
	})
}

// TestAnyOrder: P4.14.
func TestAnyOrder(t *testing.T) {
	eachClock(t, func(r *rand.Rand, c api.Clock) {
		c.Strikes = append(slices.Clone(c.Strikes), randomStrike(r, c), randomStrike(r, c))
		mixed := c
		mixed.Strikes = slices.Clone(c.Strikes)
		r.Shuffle(len(mixed.Strikes), func(i, j int) {
			mixed.Strikes[i], mixed.Strikes[j] = mixed.Strikes[j], mixed.Strikes[i]
		})
		expectSame(t, r, c, mixed, 0)
		slices.Reverse(mixed.Strikes)
		expectSame(t, r, c, mixed, 0)
	})
}

// TestExactClock: P4.15.
func TestExactClock(t *testing.T) {
	r := rand.New(rand.NewSource(6))
	for range rounds {
		c := exact(1+r.Intn(api.MaxHours), r.Intn(90000))
		c.Step = r.Intn(api.MaxStep + 1)
		for range r.Intn(4) {
			at := r.Intn(min(api.MaxShown-c.Shown, c.Hours*3600) + 1)
			c.Strikes = append(c.Strikes, strike(at, max(0, c.Shown+at-r.Intn(9)), c.Shown+at))
		}
		eachTime(r, c, func(at int) {
			if s, e := clocks.Reading(c, at); s != span(c.Shown+at, c.Shown+at) || e != api.OK {
				t.Fatalf("Reading at %d = %v, %d of %+v", at, s, e, c)
			}
			if c.Shown+at > api.MaxShown {
				return
			}
			if s, e := clocks.When(c, c.Shown+at); s != span(at, at) || e != api.OK {
				t.Fatalf("When of %d = %v, %d of %+v", c.Shown+at, s, e, c)
			}
		})
		if n, e := clocks.Many(c); n != 1 || e != api.OK {
			t.Fatalf("Many = %d, %d of %+v", n, e, c)
		}
	}
}

// TestSetDifferently: P4.16.
func TestSetDifferently(t *testing.T) {
	eachClock(t, func(r *rand.Rand, c api.Clock) {
		last := c.Shown
		for _, s := range c.Strikes {
			last = max(last, s.Shown.High)
		}
		more := r.Intn(max(1, api.MaxShown-last+1))
		moved := c
		moved.Shown += more
		moved.Strikes = slices.Clone(c.Strikes)
		for i := range moved.Strikes {
			moved.Strikes[i].Shown.Low += more
			moved.Strikes[i].Shown.High += more
		}
		if e := clocks.Check(moved); e != api.OK {
			t.Errorf("Check = %d", e)
		}
		expectSame(t, r, c, moved, more)
	})
}

// TestLiars: P4.17.
func TestLiars(t *testing.T) {
	lies := map[int]int{}
	eachClock(t, func(r *rand.Rand, c api.Clock) {
		c.Strikes = append(slices.Clone(c.Strikes), randomStrike(r, c), strike(r.Intn(c.Hours*3600), r.Intn(9), api.MaxShown-r.Intn(9)))
		fewest, e := clocks.Fewest(c)
		if many, f := clocks.Many(c); (many > 0) != (fewest == 0) || e != api.OK || f != api.OK {
			t.Errorf("Fewest = %d, %d, Many = %d, %d", fewest, e, many, f)
		}
		lies[fewest]++
		less := 0
		for i := range c.Strikes {
			without := c
			without.Strikes = slices.Delete(slices.Clone(c.Strikes), i, i+1)
			n, e := clocks.Fewest(without)
			if n > fewest || n < fewest-1 || e != api.OK {
				t.Errorf("Fewest = %d, and %d, %d without %d", fewest, n, e, i)
			}
			if n < fewest {
				less++
			}
		}
		if fewest > 0 && less == 0 {
			t.Errorf("Fewest = %d, and no strike is one of them", fewest)
		}
	})
	if lies[0] < rounds/10 || lies[1] < rounds/10 || lies[2] == 0 {
		t.Errorf("how often strikes are wrong: %v", lies)
	}
}
