package secretary_test

import (
	"fmt"
	"math"
	"reflect"
	"slices"
	"strconv"
	"strings"
	"testing"

	"squeaker/api"
	"squeaker/clocks"
	"squeaker/owners"
	"squeaker/prizes"
	"squeaker/secretary"
)

func span(low, high int) api.Span { return api.Span{Low: low, High: high} }

func bird(ring, sex int) api.Bird { return api.Bird{Ring: ring, Sex: sex, Born: span(1, 1)} }

func deed(id, day, ring, from, to int) api.Deed {
	return api.Deed{Id: id, Day: day, Ring: ring, From: from, To: to}
}

func strike(at, low, high int) api.Strike { return api.Strike{At: at, Shown: span(low, high)} }

func racer(bird, owner, rank, day int, pools ...int) api.Racer {
	return api.Racer{Bird: bird, Owner: owner, Rank: rank, Day: day, Pools: pools}
}

// example is the club C of the chapter.
func example() api.Club {
	return api.Club{
		Stud: api.Stud{
			Flock:  api.Flock{Birds: []api.Bird{bird(100, api.Cock), bird(102, api.Hen), bird(102, api.Cock)}},
			Firsts: []int{1, 1, 2},
		},
		Clocks: []api.Clock{{Hours: 2, Shown: 1000, Drift: span(-2, 4), Step: 3, Strikes: []api.Strike{strike(3600, 4600, 4602)}}},
		Race: api.Race{
			Racers: []api.Racer{
				racer(11, 1, 1, 1, 0, 1, 2), racer(12, 2, 2, 1, 0, 1), racer(13, 1, 2, 1, 0, 1, 2),
				racer(14, 3, 1, 2, 0, 1), racer(15, 2, 0, 0, 0, 2),
			},
			Pools: []api.Pool{
				{Stake: 1000, Cut: 100, Kind: api.ByTable, Table: []int{500, 300, 100}},
				{Stake: 333, Kind: api.ByQuota, Quota: 2},
				{Stake: 500, Kind: api.ToFirst, FirstDay: true},
			},
			Protests: []int{11, 13},
		},
	}
}

// changed returns the example with something changed.
func changed(change func(c *api.Club)) api.Club {
	c := example()
	change(&c)
	return c
}

// written returns the example with the deeds of the stud S of chapter 3.
func written() api.Club {
	return changed(func(c *api.Club) {
		c.Stud.Deeds = []api.Deed{deed(1, 5, 100, 1, 3), deed(2, 6, 102, 1, 2), deed(3, 8, 102, 2, 4), deed(4, 8, 100, 1, 5), deed(5, 9, 102, 4, 3)}
	})
}

// crowded returns a club with a stud of which there are too many truths.
func crowded() api.Club {
	return changed(func(c *api.Club) {
		c.Stud.Flock.Birds, c.Stud.Firsts = slices.Repeat([]api.Bird{bird(7, api.Hen)}, 8), make([]int, 8)
		c.Stud.Deeds = []api.Deed{deed(1, 1, 7, 0, 1), deed(2, 1, 7, 0, 2), deed(3, 4, 7, 0, 3)}
	})
}

// timed returns the example with other clocks.
func timed(list ...api.Clock) api.Club { return changed(func(c *api.Club) { c.Clocks = list }) }

// lying is a clock that has no truth.
func lying() api.Clock {
	c := example().Clocks[0]
	c.Strikes = []api.Strike{strike(0, 1001, 1001)}
	return c
}

// exact is a clock that shows the real time.
func exact(strikes ...api.Strike) api.Clock { return api.Clock{Hours: 8, Strikes: strikes} }

// run returns the answers to the lines of a script and the ledger after them, and fails if there is an error.
func run(t *testing.T, c api.Club, script ...string) ([]string, api.Ledger) {
	t.Helper()
	answers, l, e := secretary.Run(c, script)
	if e != api.OK || len(answers) != len(script) {
		t.Fatalf("Run = %q, error %d, to %q", answers, e, script)
	}
	return answers, l
}

// A talk is lines, each with its answer behind " = ".
type talk []string

// parts returns the lines and their answers.
func (x talk) parts() (script, answers []string) {
	for _, one := range x {
		line, answer, _ := strings.Cut(one, " = ")
		script, answers = append(script, line), append(answers, answer)
	}
	return script, answers
}

// expectTalk checks the answers to some lines, and returns the ledger after them.
func expectTalk(t *testing.T, name string, c api.Club, x talk) api.Ledger {
	t.Helper()
	script, want := x.parts()
	got, l := run(t, c, script...)
	for i := range got {
		if got[i] != want[i] {
			t.Errorf("%s: line %d: %s = %s, not %s", name, i, script[i], got[i], want[i])
		}
	}
	return l
}

// expectEach checks the answer to each line of a talk by itself, and that only lines that are answered ok change anything.
func expectEach(t *testing.T, name string, c api.Club, x talk) {
	t.Helper()
	_, first := run(t, c)
	for _, one := range x {
		l := expectTalk(t, name, c, talk{one})
		if !strings.HasSuffix(one, " = ok") && !sameLedger(l, first) {
			t.Errorf("%s: %s changes the ledger: %+v", name, one, l)
		}
	}
}

// tidy returns a value in which no slice is empty, but nil, so that equal ones are deeply equal.
func tidy[T any](value T) T {
	out := reflect.New(reflect.TypeOf(value)).Elem()
	out.Set(copiedValue(reflect.ValueOf(value)))
	return out.Interface().(T)
}

// copiedValue returns a value that shares no memory with another one, and has no empty slices.
func copiedValue(v reflect.Value) reflect.Value {
	out := reflect.New(v.Type()).Elem()
	switch v.Kind() {
	case reflect.Struct:
		for i := range v.NumField() {
			out.Field(i).Set(copiedValue(v.Field(i)))
		}
	case reflect.Slice:
		for i := range v.Len() {
			out.Set(reflect.Append(out, copiedValue(v.Index(i))))
		}
	default:
		out.Set(v)
	}
	return out
}

func sameLedger(a, b api.Ledger) bool { return reflect.DeepEqual(tidy(a), tidy(b)) }

// tooFarFrom returns numbers that are not within limits.
func tooFarFrom(low, high int) []int { return []int{low - 1, high + 1, math.MinInt, math.MaxInt} }

// invalid returns clubs each of which breaks one rule, by what is broken.
func invalid() map[string]api.Club {
	out := map[string]api.Club{}
	for name, change := range map[string]func(c *api.Club){
		"a ring that is none":   func(c *api.Club) { c.Stud.Flock.Birds[1].Ring = api.MaxRing + 1 },
		"a sex that is none":    func(c *api.Club) { c.Stud.Flock.Birds[0].Sex = 0 },
		"a first owner too few": func(c *api.Club) { c.Stud.Firsts = c.Stud.Firsts[:2] },
		"a deed of no member":   func(c *api.Club) { c.Stud.Deeds = []api.Deed{deed(1, 1, 1, api.MaxMember+1, 1)} },
		"a deed too often":      func(c *api.Club) { c.Stud.Deeds = slices.Repeat([]api.Deed{deed(1, 1, 1, 1, 1)}, api.MaxDeeds+1) },
		"a recall of no deed":   func(c *api.Club) { c.Stud.Voided = []int{-1} },
		"deeds that clash":      func(c *api.Club) { c.Stud.Deeds = []api.Deed{deed(1, 1, 1, 1, 1), deed(1, 1, 1, 1, 2)} },
		"a recalled deed clashes": func(c *api.Club) {
			c.Stud.Deeds, c.Stud.Voided = []api.Deed{deed(1, 1, 1, 1, 1), deed(1, 2, 1, 1, 1)}, []int{1}
		},
		"a clock too many":          func(c *api.Club) { c.Clocks = slices.Repeat(c.Clocks, api.MaxClocks+1) },
		"the first clock":           func(c *api.Club) { c.Clocks[0].Hours = 0 },
		"the second clock":          func(c *api.Club) { c.Clocks = append(c.Clocks, api.Clock{Hours: 1, Step: -1}) },
		"the last clock":            func(c *api.Club) { c.Clocks = []api.Clock{exact(), exact(), {Hours: api.MaxHours + 1}} },
		"a strike after the hours":  func(c *api.Club) { c.Clocks[0].Strikes[0].At = 7201 },
		"a strike too many":         func(c *api.Club) { c.Clocks[0].Strikes = slices.Repeat(c.Clocks[0].Strikes, api.MaxStrikes+1) },
		"a bird twice":              func(c *api.Club) { c.Race.Racers[1].Bird = 11 },
		"a rank without a day":      func(c *api.Club) { c.Race.Racers[4].Rank = 1 },
		"a pool that is none":       func(c *api.Club) { c.Race.Racers[0].Pools[2] = 3 },
		"a table of too much":       func(c *api.Club) { c.Race.Pools[0].Table[0] = 601 },
		"a protest against no bird": func(c *api.Club) { c.Race.Protests[0] = 10 },
		"protests in another order": func(c *api.Club) { slices.Reverse(c.Race.Protests) },
	} {
		out[name] = changed(change)
	}
	for _, n := range tooFarFrom(0, api.MaxMember) {
		of := " " + strconv.Itoa(n)
		out["a first owner"+of] = changed(func(c *api.Club) { c.Stud.Firsts[2] = n })
		out["an owner in the race"+of] = changed(func(c *api.Club) { c.Race.Racers[2].Owner = n })
		out["a number of hours"+of] = changed(func(c *api.Club) { c.Clocks[0].Hours = n })
	}
	return out
}

// valid returns clubs that are valid, by what is special.
func valid() map[string]api.Club {
	return map[string]api.Club{
		"nothing":           {},
		"the example":       example(),
		"deeds":             written(),
		"too many truths":   crowded(),
		"all clocks":        timed(exact(), exact(), exact()),
		"a clock twice":     timed(exact(), exact()),
		"a clock that lies": timed(lying()),
		"no birds":          changed(func(c *api.Club) { c.Stud = api.Stud{} }),
		"no clocks":         timed(),
		"no race":           changed(func(c *api.Club) { c.Race = api.Race{} }),
		"deeds that come late": changed(func(c *api.Club) {
			c.Stud.Deeds, c.Stud.Voided = []api.Deed{deed(9, 9, 9, 9, 9), deed(1, 1, 1, 1, 1)}, []int{7, 7}
		}),
	}
}

// TestCheck: P12.1.
func TestCheck(t *testing.T) {
	for name, c := range invalid() {
		if e := secretary.Check(c); e != api.ErrClub {
			t.Errorf("%s: Check = %d", name, e)
		}
	}
	for name, c := range valid() {
		if e := secretary.Check(c); e != api.OK {
			t.Errorf("%s: Check = %d", name, e)
		}
	}
	if owners.Check(invalid()["deeds that clash"].Stud) != api.ErrDeed || clocks.Check(invalid()["the first clock"].Clocks[0]) != api.ErrClock ||
		prizes.Check(invalid()["a bird twice"].Race) != api.ErrRace {
		t.Errorf("the wrong clubs have other errors")
	}
}

// TestErrors: P12.2 and P1, the errors of Run in their order, and zero values beside them.
func TestErrors(t *testing.T) {
	expect := func(name string, c api.Club, lines int, want api.Errno) {
		t.Helper()
		answers, l, e := secretary.Run(c, slices.Repeat([]string{"day 1"}, lines))
		if e != want {
			t.Errorf("%s, %d lines: Run has the error %d, not %d", name, lines, e, want)
		}
		if e != api.OK && (len(answers) > 0 || !reflect.ValueOf(l).IsZero()) {
			t.Errorf("%s, %d lines: Run = %q, %+v with an error", name, lines, answers, l)
		}
		if e == api.OK && (len(answers) != lines || l.Day != min(1, lines)) {
			t.Errorf("%s, %d lines: Run = %q, %+v", name, lines, answers, l)
		}
	}
	for name, c := range invalid() {
		for _, lines := range []int{0, 1, api.MaxLines, api.MaxLines + 1} {
			expect(name, c, lines, api.ErrClub)
		}
	}
	for name, c := range valid() {
		for lines := range api.MaxLines + 1 {
			expect(name, c, lines, api.OK)
		}
		for _, lines := range []int{61, 62, 100, 1000} {
			expect(name, c, lines, api.ErrMany)
		}
	}
	for _, line := range []string{"?", "", "owner 1", "deed 100 0 0 0"} {
		if _, _, e := secretary.Run(example(), slices.Repeat([]string{line}, api.MaxLines+1)); e != api.ErrMany {
			t.Errorf("too often %q: Run has the error %d", line, e)
		}
	}
}

// TestExample: the example of the chapter.
func TestExample(t *testing.T) {
	l := expectTalk(t, "the example", example(), talk{
		"owner 1 = 1",
		"day 6 = ok",
		"deed 2 102 1 2 = ok",
		"who 1 = 2", "has 2 = 1 2 / 1 2", "has 1 = 0 / 0",
		"strike 0 7200 9000 9001 = liar",
		"strike 0 7200 8205 8210 = ok",
		"when 0 8200 = 7195 7196", "when 1 8200 = no",
		"can 0 12 = 900 2250", "purse 2 = 2833 1413",
		"settle 11 1 = ok", "can 0 12 = 1800 2250", "prize 0 12 = 1800 90",
		"settle 13 0 = ok", "can 0 12 = 1800 1800",
		"day 5 = no", "pot 07 = ?", "owner 9 = no", "purse 9 = none",
	})
	want := api.Ledger{Day: 6, Club: changed(func(c *api.Club) {
		c.Stud.Deeds = []api.Deed{deed(2, 6, 102, 1, 2)}
		c.Clocks[0].Strikes = append(c.Clocks[0].Strikes, strike(7200, 8205, 8210))
		c.Race.Racers[0] = racer(11, 1, 0, 0, 0, 1, 2)
		c.Race.Protests = nil
	})}
	if !sameLedger(l, want) {
		t.Errorf("the ledger is %+v, not %+v", l, want)
	}
	expectTalk(t, "the document", example(), talk{"strike 0 7200 8205 8210 = ok", "when 0 8200 = 7195 7196"})
}

// TestDay: P12.2, the line day.
func TestDay(t *testing.T) {
	expectEach(t, "day", example(), talk{"day 0 = ok", "day 1 = ok", "day 9999 = ok", "day 10000 = no", "day 999999 = no"})
	l := expectTalk(t, "days", example(), talk{
		"day 0 = ok", "day 7 = ok", "day 7 = ok", "day 6 = no", "day 0 = no", "day 8 = ok", "day 10000 = no", "day 7 = no", "day 8 = ok",
	})
	if l.Day != 8 {
		t.Errorf("the day is %d", l.Day)
	}
	expectTalk(t, "the last day", example(), talk{"day 9999 = ok", "day 9999 = ok", "day 9998 = no", "day 10000 = no"})
}

// TestDeed: P12.2, the lines deed and recall.
func TestDeed(t *testing.T) {
	expectEach(t, "deed", example(), talk{
		"deed 0 0 0 0 = ok", "deed 99 9999 99 99 = ok", "deed 1 100 1 1 = ok", "deed 1 5000 7 8 = ok",
		"deed 100 0 0 0 = no", "deed 0 10000 0 0 = no", "deed 0 0 100 0 = no", "deed 0 0 0 100 = no", "deed 999999 0 0 0 = no",
		"recall 0 = ok", "recall 99 = ok", "recall 100 = no", "recall 999999 = no",
	})
	l := expectTalk(t, "deeds", example(), talk{
		"day 3 = ok", "deed 9 102 1 2 = ok", "deed 9 102 1 2 = ok", "deed 9 102 1 3 = no", "deed 9 102 2 2 = no", "deed 9 100 1 2 = no",
		"day 4 = ok", "deed 9 102 1 2 = no", "deed 8 100 1 2 = ok", "recall 9 = ok", "recall 9 = ok", "deed 9 102 1 3 = no",
		"recall 4 = ok", "deed 4 100 1 2 = ok", "recall 77 = ok",
	})
	want := changed(func(c *api.Club) {
		c.Stud.Deeds = []api.Deed{deed(4, 4, 100, 1, 2), deed(8, 4, 100, 1, 2), deed(9, 3, 102, 1, 2)}
		c.Stud.Voided = []int{4, 9, 77}
	})
	if !sameLedger(l, api.Ledger{Day: 4, Club: want}) {
		t.Errorf("the ledger is %+v, not %+v", l, want)
	}
	expectTalk(t, "deeds of the stud", written(), talk{
		"day 5 = ok", "deed 1 100 1 3 = ok", "deed 1 100 1 4 = no", "deed 2 102 1 2 = no", "day 6 = ok", "deed 1 100 1 3 = no", "deed 2 102 1 2 = ok",
	})
}

// TestManyDeeds: P12.2, the limits of deeds and recalls.
func TestManyDeeds(t *testing.T) {
	var deeds, recalls talk
	for i := range api.MaxDeeds {
		deeds = append(deeds, fmt.Sprint("deed ", i, " 100 1 1 = ok"))
		recalls = append(recalls, fmt.Sprint("recall ", 30+i, " = ok"))
	}
	expectTalk(t, "deeds", example(), slices.Concat(deeds, talk{"deed 20 100 1 1 = no", "deed 19 100 1 1 = ok", "recall 3 = ok", "deed 20 100 1 1 = no"}))
	expectTalk(t, "recalls", example(), slices.Concat(recalls, talk{"recall 29 = no", "recall 30 = ok", "recall 49 = ok", "deed 30 100 1 1 = ok"}))
	expectTalk(t, "twice", example(), slices.Concat(deeds, deeds))
	expectTalk(t, "both", example(), slices.Concat(deeds, recalls, talk{"deed 20 1 1 1 = no", "recall 0 = no", "deed 7 100 1 1 = ok", "recall 31 = ok"}))
	often := changed(func(c *api.Club) { c.Stud.Deeds = slices.Repeat([]api.Deed{deed(0, 0, 100, 1, 1)}, api.MaxDeeds) })
	expectTalk(t, "often", often, deeds)
}

// TestOwners: P12.2, the lines owner, who, has and ring.
func TestOwners(t *testing.T) {
	expectEach(t, "at first", written(), talk{
		"owner 0 = 1", "owner 2 = 2", "owner 3 = no", "owner 999999 = no", "who 1 = 1", "who 3 = no",
		"has 0 = none / none", "has 1 = 0 1 / 0 1", "has 2 = 2 / 2", "has 99 = none / none", "has 100 = no", "has 999999 = no",
		"ring 100 = 1", "ring 102 = 1 2", "ring 0 = none", "ring 9999 = none", "ring 10000 = no",
	})
	expectTalk(t, "day by day", written(), talk{
		"day 4 = ok", "owner 0 = 1", "day 5 = ok", "owner 0 = 3", "has 1 = 1 / 1", "has 3 = 0 / 0",
		"day 7 = ok", "owner 1 = 2", "who 1 = 2", "has 2 = 1 2 / 1 2", "ring 102 = 2",
		"day 8 = ok", "owner 1 = none", "who 1 = 2 4", "who 2 = 2 4", "has 2 = none / 1 2", "has 4 = none / 1 2", "ring 102 = 2 4",
		"recall 2 = ok", "owner 1 = 1", "owner 2 = 4", "has 4 = 2 / 2",
		"day 9 = ok", "owner 2 = 3", "who 2 = 3", "has 3 = 0 2 / 0 2", "day 9999 = ok", "has 4 = none / none",
	})
	expectTalk(t, "sure and perhaps", written(), talk{"day 9 = ok", "has 3 = 0 / 0 1 2", "has 2 = none / 1 2", "ring 100 = 3"})
	expectEach(t, "too many truths", crowded(), talk{
		"owner 0 = many", "who 0 = many", "has 0 = many", "ring 7 = many", "owner 8 = many", "who 8 = many", "has 100 = many", "ring 10000 = many",
		"deed 4 7 0 1 = ok", "recall 1 = ok", "recall 9 = ok", "deed 3 7 0 4 = no",
	})
	expectTalk(t, "too many for a while", crowded(), talk{
		"owner 0 = many", "recall 9 = ok", "owner 0 = many", "recall 3 = ok", "owner 0 = 0", "day 1 = ok", "owner 0 = none", "who 0 = 0 1 2",
		"deed 7 7 0 4 = ok", "who 0 = many", "has 0 = many", "recall 7 = ok", "who 0 = 0 1 2",
	})
	expectEach(t, "no birds", api.Club{}, talk{"owner 0 = no", "who 0 = no", "has 0 = none / none", "ring 0 = none"})
}

// TestStrike: P12.2, the line strike.
func TestStrike(t *testing.T) {
	expectEach(t, "strike", example(), talk{
		"strike 0 3600 4600 4602 = ok", "strike 0 0 1000 1000 = ok", "strike 0 0 0 99999 = ok", "strike 0 7200 0 99999 = ok", "strike 0 3600 4602 4700 = ok",
		"strike 1 3600 4600 4602 = no", "strike 999999 3600 4600 4602 = no", "strike 0 7201 0 99999 = no", "strike 0 0 0 100000 = no", "strike 0 0 100000 100000 = no",
		"strike 0 3600 4602 4600 = no", "strike 0 3600 9001 9000 = no", "strike 0 7200 100000 100001 = no", "strike 1 7200 9000 9001 = no",
		"strike 0 0 1001 99999 = liar", "strike 0 0 0 999 = liar", "strike 0 3600 4603 4603 = liar", "strike 0 3600 4599 4599 = liar", "strike 0 7200 9000 9001 = liar",
	})
	l := expectTalk(t, "strikes", timed(exact(), example().Clocks[0], exact(strike(5, 5, 5))), talk{
		"strike 2 9 9 9 = ok", "strike 0 1 2 2 = liar", "strike 2 9 9 9 = ok", "strike 1 3600 4602 4602 = ok", "strike 1 3600 4600 4601 = liar",
		"strike 3 0 0 0 = no", "strike 2 1 0 1 = ok", "strike 0 28800 28800 28800 = ok", "strike 0 28801 28801 28801 = no", "strike 1 7201 8200 8210 = no",
	})
	c := example().Clocks[0]
	c.Strikes = append(c.Strikes, strike(3600, 4602, 4602))
	want := timed(exact(strike(28800, 28800, 28800)), c, exact(strike(5, 5, 5), strike(9, 9, 9), strike(9, 9, 9), strike(1, 0, 1)))
	if !sameLedger(l, api.Ledger{Club: want}) {
		t.Errorf("the ledger is %+v, not %+v", l, want)
	}
	expectEach(t, "no clocks", api.Club{}, talk{"strike 0 0 0 0 = no"})
	expectEach(t, "a clock that lies", timed(lying()), talk{"strike 0 0 1000 1001 = liar", "strike 0 0 0 99999 = liar", "strike 0 7201 0 0 = no"})
	full := timed(exact(slices.Repeat([]api.Strike{strike(4, 4, 4)}, api.MaxStrikes-1)...))
	expectTalk(t, "a full clock", full, talk{
		"strike 0 4 5 5 = liar", "strike 0 4 4 4 = ok", "strike 0 4 4 4 = no", "strike 0 4 5 5 = no", "when 0 4 = 4 4",
	})
}

// TestWhen: P12.2, the lines when and home.
func TestWhen(t *testing.T) {
	expectEach(t, "when", example(), talk{
		"when 0 0 = 0 0", "when 0 1000 = 0 0", "when 0 4600 = 3599 3600", "when 0 8198 = 7193 7200", "when 0 8199 = none", "when 0 99999 = none", "when 0 100000 = no", "when 1 0 = no", "when 999999 0 = no",
		"home 0 0 0 = 0 0", "home 0 4600 0 = 3599 3600", "home 0 4600 60 = 3539 3600", "home 0 4600 600 = 2999 3600", "home 0 1100 600 = 0 100",
		"home 0 4600 601 = no", "home 0 100000 0 = no", "home 0 8207 0 = none", "home 0 8207 601 = no", "home 1 0 0 = no", "home 999999 0 0 = no",
	})
	expectTalk(t, "after strikes", example(), talk{
		"when 0 8200 = none", "strike 0 7200 8205 8210 = ok", "when 0 8200 = 7195 7196", "home 0 8200 60 = 7135 7196", "when 0 4601 = 3600 3600",
		"strike 0 7200 0 8204 = liar", "when 0 8200 = 7195 7196",
	})
	expectEach(t, "a clock that lies", timed(exact(), lying()), talk{
		"when 0 5 = 5 5", "when 1 0 = none", "when 1 99999 = none", "when 1 100000 = no", "home 1 0 0 = none", "home 1 0 601 = no", "when 2 0 = no", "home 0 900 600 = 300 900",
	})
	expectEach(t, "no clocks", api.Club{}, talk{"when 0 0 = no", "home 0 0 0 = no"})
}

// TestEnter: P12.2, the lines enter, name and rank.
func TestEnter(t *testing.T) {
	expectEach(t, "enter", example(), talk{
		"enter 0 0 = ok", "enter 9999 99 = ok", "enter 100 7 = ok", "enter 10000 0 = no", "enter 0 100 = no", "enter 11 1 = no", "enter 15 9 = no",
		"name 12 2 = ok", "name 15 1 = ok", "name 12 3 = no", "name 12 0 = no", "name 11 2 = no", "name 16 0 = no", "name 999999 0 = no", "name 12 999999 = no",
		"rank 15 12 2 = ok", "rank 15 1 1 = ok", "rank 11 0 0 = ok", "rank 15 0 0 = ok", "rank 14 2 1 = ok",
		"rank 15 13 1 = no", "rank 15 0 1 = no", "rank 15 0 2 = no", "rank 15 1 0 = no", "rank 15 1 3 = no", "rank 16 1 1 = no", "rank 11 13 1 = no", "rank 999999 0 0 = no",
	})
	l := expectTalk(t, "entries", example(), talk{
		"enter 7 4 = ok", "enter 7 4 = no", "enter 7 5 = no", "name 7 1 = ok", "name 7 0 = ok", "name 7 1 = no", "name 7 2 = ok", "name 7 3 = no",
		"rank 7 3 1 = ok", "rank 7 2 2 = ok", "rank 7 2 3 = no", "enter 5 4 = ok", "name 5 2 = ok", "name 15 1 = ok", "rank 11 0 0 = ok",
	})
	want := changed(func(c *api.Club) {
		c.Race.Racers[0] = racer(11, 1, 0, 0, 0, 1, 2)
		c.Race.Racers[4] = racer(15, 2, 0, 0, 0, 1, 2)
		c.Race.Racers = append(c.Race.Racers, racer(7, 4, 2, 2, 0, 1, 2), racer(5, 4, 0, 0, 2))
	})
	if !sameLedger(l, api.Ledger{Club: want}) {
		t.Errorf("the ledger is %+v, not %+v", l, want)
	}
	var many talk
	for i := range api.MaxRacers - 5 {
		many = append(many, fmt.Sprint("enter ", i, " 0 = ok"))
	}
	expectTalk(t, "too many birds", example(), append(many, "enter 77 0 = no", "enter 3 0 = no", "rank 3 1 1 = ok", "purse 0 = 0 0"))
	expectEach(t, "no race", api.Club{}, talk{"enter 3 4 = ok", "name 3 0 = no", "rank 3 1 1 = no"})
	expectTalk(t, "no pools", api.Club{}, talk{"enter 3 4 = ok", "name 3 0 = no", "rank 3 1 1 = ok", "purse 4 = 0 0", "pot 0 = no"})
}

// TestProtest: P12.2, the lines protest and settle.
func TestProtest(t *testing.T) {
	expectEach(t, "protest", example(), talk{
		"protest 12 = ok", "protest 14 = ok", "protest 15 = ok", "protest 11 = no", "protest 13 = no", "protest 10 = no", "protest 16 = no", "protest 999999 = no",
		"settle 11 0 = ok", "settle 13 1 = ok", "settle 11 2 = no", "settle 11 999999 = no", "settle 12 0 = no", "settle 12 1 = no", "settle 10 0 = no", "settle 999999 1 = no",
	})
	l := expectTalk(t, "protests", example(), talk{
		"protest 15 = ok", "protest 12 = ok", "protest 14 = no", "protest 12 = no", "settle 13 1 = ok", "settle 13 1 = no", "settle 13 0 = no",
		"protest 14 = ok", "protest 13 = no", "settle 11 0 = ok", "settle 11 0 = no", "protest 13 = ok", "settle 15 1 = ok", "settle 14 2 = no",
	})
	want := changed(func(c *api.Club) {
		c.Race.Racers[2] = racer(13, 1, 0, 0, 0, 1, 2)
		c.Race.Protests = []int{12, 13, 14}
	})
	if !sameLedger(l, api.Ledger{Club: want}) {
		t.Errorf("the ledger is %+v, not %+v", l, want)
	}
	expectEach(t, "no race", api.Club{}, talk{"protest 0 = no", "settle 0 0 = no", "settle 0 1 = no"})
	expectTalk(t, "a bird that is entered", api.Club{}, talk{"protest 3 = no", "enter 3 1 = ok", "protest 3 = ok", "settle 3 2 = no", "settle 3 1 = ok", "protest 3 = ok"})
}

// TestPrizes: P12.2, the lines pot, prize, can and purse.
func TestPrizes(t *testing.T) {
	expectEach(t, "prizes", example(), talk{
		"pot 0 = 5000 500 4500 450", "pot 1 = 1332 0 1332 0", "pot 2 = 1500 0 1500 0", "pot 3 = no", "pot 999999 = no",
		"prize 0 11 = 2250 90", "prize 0 12 = 900 90", "prize 0 15 = 0 90", "prize 1 14 = 0 0", "prize 2 13 = 0 0",
		"prize 1 15 = no", "prize 2 12 = no", "prize 3 11 = no", "prize 0 16 = no", "prize 0 0 = no", "prize 999999 11 = no",
		"can 0 12 = 900 2250", "can 2 13 = 0 1500", "can 0 15 = 0 0", "can 1 15 = no", "can 3 11 = no", "can 0 16 = no", "can 999999 999999 = no",
		"purse 1 = 3666 5829", "purse 2 = 2833 1413", "purse 3 = 1333 90", "purse 0 = none", "purse 4 = none", "purse 100 = none", "purse 999999 = none",
	})
	expectTalk(t, "line by line", example(), talk{
		"enter 9 0 = ok", "purse 0 = 0 0", "name 9 2 = ok", "purse 0 = 500 0", "pot 2 = 2000 0 2000 0", "prize 2 9 = 0 0", "can 2 9 = 0 0",
		"rank 9 1 1 = ok", "prize 2 9 = 1000 0", "prize 2 11 = 1000 0", "can 2 9 = 1000 2000", "settle 11 1 = ok", "prize 2 9 = 2000 0", "can 2 11 = 0 0",
		"protest 9 = ok", "can 2 9 = 0 2000", "can 2 13 = 0 2000", "settle 9 1 = ok", "settle 13 1 = ok", "pot 2 = 2000 0 2000 2000", "prize 2 9 = 0 500", "purse 0 = 500 500",
	})
	large := api.Club{Race: api.Race{Pools: []api.Pool{{Stake: api.MaxStake, Kind: api.ToFirst}}}}
	for i := range api.MaxRacers {
		large.Race.Racers = append(large.Race.Racers, racer(i, 0, 1+i, 1, 0))
	}
	expectTalk(t, "more than six digits", large, talk{"pot 0 = 1200000 0 1200000 0", "prize 0 0 = 1200000 0", "can 0 0 = 1200000 1200000", "purse 0 = 1200000 1200000"})
	expectEach(t, "no race", api.Club{}, talk{"pot 0 = no", "prize 0 0 = no", "can 0 0 = no", "purse 0 = none"})
}

// counts returns how many numbers each word has behind it.
func counts() map[string]int {
	return map[string]int{
		"day": 1, "deed": 4, "recall": 1, "owner": 1, "who": 1, "has": 1, "ring": 1, "strike": 4, "when": 2, "home": 3,
		"enter": 2, "name": 2, "rank": 3, "protest": 1, "settle": 2, "pot": 1, "prize": 2, "can": 2, "purse": 1,
	}
}

// TestLines: P12.2, lines that are described, and that are not.
func TestLines(t *testing.T) {
	for word, n := range counts() {
		for numbers := range 7 {
			for _, number := range []string{" 0", " 1", " 999999"} {
				line := word + strings.Repeat(number, numbers)
				answers, _ := run(t, written(), line)
				if (answers[0] == "?") != (numbers != n) {
					t.Errorf("%q is answered %q", line, answers[0])
				}
			}
		}
		for _, not := range []string{"", "+1", "-1", "-0", "00", "01", "000001", "1000000", "0000000", "12345678901234567890", "x", "1x", "x1", "1.0", "1,", "0x1", "1_0", "1e1", "١", "１", "1\n", "\t1", "1\x00", "\xff"} {
			for at := range n {
				numbers := slices.Repeat([]string{"1"}, n)
				numbers[at] = not
				expectEach(t, word, written(), talk{word + " " + strings.Join(numbers, " ") + " = ?"})
			}
		}
		numbers := strings.Repeat(" 1", n)
		for _, line := range []string{
			" " + word + numbers, word + " " + numbers, word + numbers + " ", word + numbers + "  ", word + numbers + "\n", "\t" + word + numbers, word + "\t" + numbers[1:],
			strings.ToUpper(word) + numbers, word + "s" + numbers, word[1:] + numbers, word + numbers[1:], word + "\u00a0" + numbers[1:], word + numbers + " " + word, word + numbers + ";",
			"1 " + word + numbers[2:], word + " " + word + numbers, word + strings.ReplaceAll(numbers, " ", "\v"), "\ufeff" + word + numbers, word + "\x00" + numbers, word + strings.Repeat(" 1", 100000),
		} {
			if answers, _ := run(t, written(), line); answers[0] != "?" {
				t.Errorf("%.60q is answered %q", line, answers[0])
			}
		}
	}
	for _, line := range []string{"", " ", "  ", "0", "1 1", "?", "ok", "no", "days 1", "go 1", "day1", "- 1", " 1", "\xff", "day\n1", "prizes 0 11", "birds 1", "show 0"} {
		expectEach(t, "not described", written(), talk{line + " = ?"})
	}
	expectTalk(t, "among others", written(), talk{"day 5 = ok", "day 06 = ?", "owner 0 = 3", "owner  1 = ?", "day 5 = ok", " = ?", "owner 1 = 1"})
}

// scribbled overwrites all numbers of a value, and fills its slices up to their capacities.
func scribbled(v reflect.Value) {
	switch v.Kind() {
	case reflect.Struct:
		for i := range v.NumField() {
			scribbled(v.Field(i))
		}
	case reflect.Slice:
		whole := v.Slice3(0, v.Cap(), v.Cap())
		for i := range whole.Len() {
			scribbled(whole.Index(i))
		}
	case reflect.Int:
		v.SetInt(-7)
	case reflect.Bool:
		v.SetBool(!v.Bool())
	}
}

// slicesOf adds to a list all slices of integers in a value that have memory.
func slicesOf(v reflect.Value, list [][]int) [][]int {
	switch v.Kind() {
	case reflect.Struct:
		for i := range v.NumField() {
			list = slicesOf(v.Field(i), list)
		}
	case reflect.Slice:
		if ints, ok := v.Interface().([]int); ok && cap(ints) > 0 {
			return append(list, ints[:cap(ints)])
		}
		for i := range v.Len() {
			list = slicesOf(v.Index(i), list)
		}
	}
	return list
}

// TestMemory: P1 with R4, no argument is changed, and the ledger shares no memory with one, nor its parts with others.
func TestMemory(t *testing.T) {
	full := changed(func(c *api.Club) {
		c.Stud.Flock.Birds[2].Born = span(1, 2)
		c.Stud.Flock.Birds[2].Sires, c.Stud.Flock.Birds[2].Dams = []int{0}, []int{1}
		c.Stud.Deeds, c.Stud.Voided = []api.Deed{deed(9, 9, 9, 9, 9), deed(1, 1, 1, 1, 1)}, []int{7, 6}
		c.Clocks[0].Strikes = append(make([]api.Strike, 0, 8), c.Clocks[0].Strikes...)
		c.Race.Racers = append(make([]api.Racer, 0, 20), c.Race.Racers...)
		c.Race.Racers[4].Pools = append(make([]int, 0, 9), 0, 2)
		c.Race.Protests = append(make([]int, 0, 9), 11, 13)
	})
	before := tidy(full)
	for _, script := range [][]string{
		nil,
		{"owner 1", "has 1", "when 0 4600", "pot 0", "can 0 12", "purse 2", "?"},
		{"day 3", "deed 4 100 1 2", "recall 9", "strike 0 7200 8205 8210", "enter 5 5", "name 15 1", "rank 15 9 1", "protest 14", "settle 11 1", "settle 13 0", "protest 5"},
		{"strike 0 0 0 0", "strike 0 7200 9000 9001", "enter 11 5", "name 15 7", "name 15 2", "rank 15 9 3", "protest 16", "protest 11", "settle 11 2", "deed 1 1 1 2", "recall 100"},
	} {
		script := slices.Clone(script)
		was := slices.Clone(script)
		_, l := run(t, full, script...)
		if !reflect.DeepEqual(tidy(full), before) || !slices.Equal(script, was) {
			t.Fatalf("an argument is changed by %q: %+v", script, full)
		}
		for i, list := range slicesOf(reflect.ValueOf(l), nil) {
			for _, other := range slicesOf(reflect.ValueOf(l), nil)[:i] {
				if &list[0] == &other[0] {
					t.Errorf("parts of the ledger share memory after %q", script)
				}
			}
		}
		scribbled(reflect.ValueOf(&l).Elem())
		if !reflect.DeepEqual(tidy(full), before) {
			t.Fatalf("the ledger after %q shares memory: %+v", script, full)
		}
	}
	_, l := run(t, full)
	want := tidy(full)
	slices.Reverse(want.Stud.Deeds)
	slices.Reverse(want.Stud.Voided)
	if !sameLedger(l, api.Ledger{Club: want}) {
		t.Errorf("the first ledger is %+v", l)
	}
}
