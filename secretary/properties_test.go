package secretary_test

import (
	"fmt"
	"maps"
	"math/rand"
	"reflect"
	"slices"
	"strings"
	"testing"

	"squeaker/api"
	"squeaker/owners"
	"squeaker/prizes"
	"squeaker/sales"
	"squeaker/secretary"
)

const rounds = 600

// eachClub gives a test many clubs, always the same ones.
func eachClub(t *testing.T, test func(r *rand.Rand, c api.Club)) {
	t.Helper()
	r := rand.New(rand.NewSource(12))
	for range rounds {
		c := randomClub(r)
		if e := secretary.Check(c); e != api.OK {
			t.Fatalf("Check has the error %d of %+v", e, c)
		}
		before := tidy(c)
		test(r, c)
		if !reflect.DeepEqual(before, tidy(c)) {
			t.Errorf("the club is changed")
		}
		if t.Failed() {
			t.Fatalf("the club: %+v", before)
		}
	}
}

// eachScript gives a test many clubs and scripts, always the same ones.
func eachScript(t *testing.T, test func(r *rand.Rand, c api.Club, script []string)) {
	t.Helper()
	eachClub(t, func(r *rand.Rand, c api.Club) {
		script := randomScript(r, c, []int{api.MaxLines, 40, 1 + r.Intn(20)}[r.Intn(3)])
		test(r, c, script)
		if t.Failed() {
			t.Fatalf("the script: %q", script)
		}
	})
}

// A tally counts how often something was so, to be sure that a test meets it.
type tally map[string]int

func (c tally) note(what string, is bool) {
	if is {
		c[what]++
	}
}

// expect checks that as many things were noted, each often enough.
func (c tally) expect(t *testing.T, kinds, least int) {
	t.Helper()
	if len(c) < kinds || slices.Min(slices.Collect(maps.Values(c))) < least {
		t.Fatalf("so often there was: %v", c)
	}
}

// kind returns what kind of answer an answer is.
func kind(answer string) string {
	switch {
	case strings.Contains(answer, "/"):
		return "lists"
	case strings.ContainsAny(answer, "0123456789"):
		return "numbers"
	}
	return answer
}

// TestModel: P12.2, everything is what the table says, line by line.
func TestModel(t *testing.T) {
	seen := tally{}
	eachScript(t, func(_ *rand.Rand, c api.Club, script []string) {
		b := modelOf(c)
		got, l := run(t, c, script...)
		for i, line := range script {
			want := b.answer(line)
			if got[i] != want {
				t.Errorf("line %d: %q = %q, not %q", i, line, got[i], want)
			}
			word, _, ok := parsed(line)
			seen.note(word+" "+kind(want), ok)
			seen.note("not described", !ok)
		}
		if want := b.ledger(); !sameLedger(l, want) {
			t.Errorf("the ledger is %+v, not %+v", l, want)
		}
	})
	for word, kinds := range map[string]string{
		"day": "ok no", "deed": "ok no", "recall": "ok no", "owner": "numbers none no many", "who": "numbers no many", "has": "lists no many",
		"ring": "numbers none no many", "strike": "ok no liar", "when": "numbers none no", "home": "numbers none no", "enter": "ok no", "name": "ok no",
		"rank": "ok no", "protest": "ok no", "settle": "ok no", "pot": "numbers no", "prize": "numbers no", "can": "numbers no", "purse": "numbers none",
	} {
		for _, kind := range strings.Fields(kinds) {
			if seen[word+" "+kind] < 10 {
				t.Errorf("so often there was %s %s: %d", word, kind, seen[word+" "+kind])
			}
		}
	}
	if seen["not described"] < rounds {
		t.Errorf("so often a line was not described: %d", seen["not described"])
	}
}

// TestSameAgain: P1, a result depends on nothing but the arguments.
func TestSameAgain(t *testing.T) {
	eachScript(t, func(_ *rand.Rand, c api.Club, script []string) {
		answers, l := run(t, c, script...)
		for range 2 {
			again, other := run(t, tidy(c), script...)
			if !slices.Equal(answers, again) || !reflect.DeepEqual(l, other) {
				t.Errorf("Run = %q, %+v, and was %q, %+v", again, other, answers, l)
			}
		}
	})
}

// without returns a script, or its answers, without some of its lines.
func without(list []string, leave func(i int) bool) []string {
	var out []string
	for i, one := range list {
		if !leave(i) {
			out = append(out, one)
		}
	}
	return out
}

// expectLeftOut checks that all other answers, and the ledger, are the same without some lines.
func expectLeftOut(t *testing.T, c api.Club, script []string, leave func(i int) bool) {
	t.Helper()
	answers, l := run(t, c, script...)
	got, other := run(t, c, without(script, leave)...)
	if want := without(answers, leave); !slices.Equal(got, want) || !sameLedger(l, other) {
		t.Errorf("without some lines Run = %q, %+v, not %q, %+v", got, other, want, l)
	}
}

// TestQuestions: P12.3.
func TestQuestions(t *testing.T) {
	eachScript(t, func(r *rand.Rand, c api.Club, script []string) {
		asks := func(i int) bool {
			word, _, _ := parsed(script[i])
			return isQuestion(word)
		}
		expectLeftOut(t, c, script, asks)
		expectLeftOut(t, c, script, func(i int) bool { return asks(i) && i%2 == 0 })
		answers, _ := run(t, c, script...)
		for range 5 {
			n := r.Intn(len(script) + 1)
			if first, _ := run(t, c, script[:n]...); !slices.Equal(first, answers[:n]) {
				t.Errorf("%d lines are answered %q, and before %q", n, answers[:n], first)
			}
			later := slices.Concat(script[:n], randomScript(r, c, len(script)-n))
			if other, _ := run(t, c, later...); !slices.Equal(other[:n], answers[:n]) {
				t.Errorf("before other lines they are answered %q, not %q: %q", other[:n], answers[:n], later)
			}
		}
	})
}

// TestNothingDone: P12.4.
func TestNothingDone(t *testing.T) {
	seen := tally{}
	eachScript(t, func(r *rand.Rand, c api.Club, script []string) {
		answers, _ := run(t, c, script...)
		idle := func(i int) bool { return slices.Contains([]string{"no", "liar", "?"}, answers[i]) }
		expectLeftOut(t, c, script, idle)
		some := r.Perm(len(script))[:len(script)/2]
		expectLeftOut(t, c, script, func(i int) bool { return idle(i) && slices.Contains(some, i) })
		for i := range script {
			if idle(i) && r.Intn(4) == 0 {
				expectLeftOut(t, c, script, func(k int) bool { return k == i })
			}
			seen.note(answers[i], idle(i))
		}
	})
	seen.expect(t, 3, rounds/4)
}

// TestAnyOrder: P12.5.
func TestAnyOrder(t *testing.T) {
	seen := tally{}
	eachClub(t, func(r *rand.Rand, c api.Club) {
		c.Stud.Flock.Birds, c.Stud.Firsts = c.Stud.Flock.Birds[:min(4, len(c.Stud.Firsts))], c.Stud.Firsts[:min(4, len(c.Stud.Firsts))]
		ids := r.Perm(40)
		var script, mixed, lines []string
		for day := range 2 {
			var deeds []string
			for range r.Intn(4) {
				ring, from := r.Intn(lastRing), r.Intn(lastMember)
				deeds = append(deeds, fmt.Sprint("deed ", 50+ids[0], " ", ring, " ", from, " ", r.Intn(lastMember)))
				ids = ids[1:]
			}
			lines = []string{fmt.Sprint("day ", 2+day*r.Intn(5))}
			script, mixed = append(script, lines...), append(mixed, lines...)
			questions := questionsOf(c)
			twice := slices.Concat(deeds, deeds)
			r.Shuffle(len(twice), func(i, j int) { twice[i], twice[j] = twice[j], twice[i] })
			script, mixed = slices.Concat(script, deeds, questions), slices.Concat(mixed, twice, questions)
			seen.note("several deeds", len(deeds) > 1)
		}
		was, l := run(t, c, script...)
		is, other := run(t, c, mixed...)
		if onlyAnswers(script, was) != onlyAnswers(mixed, is) || !sameLedger(l, other) {
			t.Errorf("%q is answered %q, %+v, and %q %q, %+v", script, was, l, mixed, is, other)
		}
		seen.note("several owners", slices.ContainsFunc(was, func(a string) bool { return a == "none" }))
	})
	seen.expect(t, 2, rounds/4)
}

// questionsOf returns lines that ask for all owners of a club.
func questionsOf(c api.Club) []string {
	var out []string
	for bird := range c.Stud.Flock.Birds {
		out = append(out, fmt.Sprint("owner ", bird), fmt.Sprint("who ", bird))
	}
	for member := range lastMember + 1 {
		out = append(out, fmt.Sprint("has ", member))
	}
	for ring := range lastRing {
		out = append(out, fmt.Sprint("ring ", ring))
	}
	return out
}

// onlyAnswers returns the answers to all questions of a script.
func onlyAnswers(script, answers []string) string {
	return strings.Join(without(answers, func(i int) bool {
		word, _, _ := parsed(script[i])
		return !isQuestion(word)
	}), "; ")
}

// TestTrueAnswers: P12.6.
func TestTrueAnswers(t *testing.T) {
	seen := tally{}
	eachScript(t, func(r *rand.Rand, c api.Club, script []string) {
		answers, _ := run(t, c, script...)
		for i, line := range script {
			word, n, ok := parsed(line)
			if !ok || !isQuestion(word) || r.Intn(4) > 0 {
				continue
			}
			_, l := run(t, c, script[:i]...)
			if want := asked(l, word, n); answers[i] != want {
				t.Errorf("line %d: %q = %q, not %q", i, line, answers[i], want)
			}
			seen.note(word, kind(answers[i]) == "numbers" || kind(answers[i]) == "lists")
		}
	})
	seen.expect(t, 10, 15)
}

// TestClocks: P12.7.
func TestClocks(t *testing.T) {
	seen := tally{}
	eachScript(t, func(_ *rand.Rand, c api.Club, script []string) {
		answers, last := run(t, c, script...)
		for i, clock := range last.Club.Clocks {
			was, is := len(truths(c.Clocks[i])), len(truths(clock))
			if was > 0 && is == 0 {
				t.Errorf("the clock %d has no truth any more: %+v", i, clock)
			}
			seen.note("fewer truths", is < was)
		}
		for i, line := range script {
			if answers[i] != "liar" {
				continue
			}
			_, n, _ := parsed(line)
			_, l := run(t, c, script[:i]...)
			clock := l.Club.Clocks[n[0]]
			for _, gains := range truths(clock) {
				if isTrue(clock, gains, strike(n[1], n[2], n[3])) {
					t.Errorf("line %d: %q is true for the gains %v", i, line, gains)
				}
			}
			seen.note("a liar", len(truths(clock)) > 0)
		}
	})
	seen.expect(t, 2, rounds/8)
}

// TestSettled: P12.8.
func TestSettled(t *testing.T) {
	seen := tally{}
	eachScript(t, func(r *rand.Rand, c api.Club, script []string) {
		_, l := run(t, c, script...)
		var settle []string
		for _, bird := range l.Club.Race.Protests {
			settle = append(settle, fmt.Sprint("settle ", bird, " ", r.Intn(2)))
		}
		r.Shuffle(len(settle), func(i, j int) { settle[i], settle[j] = settle[j], settle[i] })
		answers, settled := run(t, l.Club, settle...)
		if slices.ContainsFunc(answers, func(a string) bool { return a != "ok" }) || len(settled.Club.Race.Protests) > 0 {
			t.Errorf("%q is answered %q", settle, answers)
		}
		for _, x := range settled.Club.Race.Racers {
			for _, pool := range x.Pools {
				of := fmt.Sprint(" ", pool, " ", x.Bird)
				answers, _ := run(t, settled.Club, "can"+of, "prize"+of)
				won, _, _ := strings.Cut(answers[1], " ")
				if answers[0] != won+" "+won {
					t.Errorf("can%s = %s, and prize%s = %s", of, answers[0], of, answers[1])
				}
				before, _ := run(t, l.Club, "can"+of)
				seen.note("it was not sure", before[0] != answers[0])
				seen.note("something is won", won != "0")
			}
		}
	})
	seen.expect(t, 2, rounds/4)
}

// numbersOf returns the numbers of an answer.
func numbersOf(t *testing.T, answer string) []int {
	t.Helper()
	word, n, ok := parsed("deed " + answer)
	if !ok && word != "deed" {
		t.Fatalf("the answer is %q", answer)
	}
	return n
}

// TestToTheCent: P12.9.
func TestToTheCent(t *testing.T) {
	seen := tally{}
	eachScript(t, func(_ *rand.Rand, c api.Club, script []string) {
		_, l := run(t, c, script...)
		staked, paid, kept, total := 0, 0, 0, 0
		for owner := range api.MaxOwners + 1 {
			if answers, _ := run(t, l.Club, fmt.Sprint("purse ", owner)); answers[0] != "none" {
				n := numbersOf(t, answers[0])
				staked, paid = staked+n[0], paid+n[1]
			}
		}
		for pool := range l.Club.Race.Pools {
			answers, _ := run(t, l.Club, fmt.Sprint("pot ", pool))
			n := numbersOf(t, answers[0])
			total, kept = total+n[0], kept+n[1]
		}
		if staked != total || paid != staked-kept {
			t.Errorf("all have staked %d and are paid %d, of %d the club keeps %d", staked, paid, total, kept)
		}
		seen.note("something is kept, and paid", kept > 0 && paid > 0)
	})
	seen.expect(t, 1, rounds/4)
}

// raceLines returns lines that enter all birds of a race, in an order in which each bird is entered first.
func raceLines(r *rand.Rand, race api.Race) []string {
	var script, later []string
	for _, x := range race.Racers {
		script = append(script, fmt.Sprint("enter ", x.Bird, " ", x.Owner))
		for _, pool := range x.Pools {
			later = append(later, fmt.Sprint("name ", x.Bird, " ", pool))
		}
		if x.Day > 0 {
			later = append(later, fmt.Sprint("rank ", x.Bird, " ", x.Rank, " ", x.Day))
		}
	}
	for _, bird := range race.Protests {
		later = append(later, fmt.Sprint("protest ", bird))
	}
	r.Shuffle(len(later), func(i, j int) { later[i], later[j] = later[j], later[i] })
	return append(script, later...)
}

// writeAll runs lines, as many at once as there can be, and returns the club after them. All of them are answered ok.
func writeAll(t *testing.T, c api.Club, script []string) api.Club {
	t.Helper()
	_, l := run(t, c)
	c = l.Club
	for part := range slices.Chunk(script, api.MaxLines) {
		answers, l := run(t, c, part...)
		if i := slices.IndexFunc(answers, func(a string) bool { return a != "ok" }); i >= 0 {
			t.Errorf("%q is answered %q", part[i], answers[i])
		}
		c = l.Club
	}
	return c
}

// moneyOf returns all that is won, can be won, and is paid in a race.
func moneyOf(t *testing.T, r api.Race) []any {
	t.Helper()
	purses, e := prizes.Purses(r)
	out := []any{tidy(purses)}
	for pool := range r.Pools {
		list, f := prizes.Prizes(r, pool)
		pot, g := prizes.Pot(r, pool)
		if e != api.OK || f != api.OK || g != api.OK {
			t.Fatalf("the errors of a race are %d, %d, %d", e, f, g)
		}
		out = append(out, tidy(list), pot)
		for _, p := range list {
			can, e := prizes.Can(r, pool, p.Bird)
			out = append(out, can, e)
		}
	}
	return out
}

// TestEntries: P0.17.
func TestEntries(t *testing.T) {
	seen := tally{}
	eachClub(t, func(r *rand.Rand, c api.Club) {
		race := c.Race
		for range r.Intn(4) {
			race.Racers = append(race.Racers, racer(lastRacer+1+len(race.Racers), 1, 1+r.Intn(12), 1+r.Intn(2)))
		}
		first := c
		first.Race = api.Race{Pools: race.Pools}
		script := raceLines(r, race)
		got := writeAll(t, first, script).Race
		if !reflect.DeepEqual(tidy(got), tidy(race)) {
			t.Errorf("the race is %+v, not %+v", got, race)
		}
		mixed := race
		mixed.Racers = slices.Clone(race.Racers)
		r.Shuffle(len(mixed.Racers), func(i, j int) { mixed.Racers[i], mixed.Racers[j] = mixed.Racers[j], mixed.Racers[i] })
		for _, r := range []api.Race{got, writeAll(t, first, raceLines(r, mixed)).Race} {
			if is, want := moneyOf(t, r), moneyOf(t, race); !reflect.DeepEqual(is, want) {
				t.Errorf("%q: the prizes are %v, not %v", script, is, want)
			}
		}
		seen.note("several runs", len(script) > api.MaxLines)
		seen.note("a protest, and a prize", len(race.Protests) > 0 && len(race.Pools) > 0)
	})
	seen.expect(t, 1, 5)
}

// single returns a stud of which no two birds have the same ring.
func single(s api.Stud) api.Stud {
	s = tidy(s)
	for i := range s.Flock.Birds {
		s.Flock.Birds[i].Ring = i
	}
	return s
}

// TestPurse: P0.12.
func TestPurse(t *testing.T) {
	seen := tally{}
	eachClub(t, func(r *rand.Rand, c api.Club) {
		c.Stud = single(c.Stud)
		day := r.Intn(lastDay + 1)
		race := api.Race{Pools: c.Race.Pools}
		for bird := range c.Stud.Flock.Birds {
			owner, e := owners.Owner(c.Stud, day, bird)
			if e != api.OK {
				t.Errorf("Owner has the error %d", e)
			}
			if r.Intn(5) == 0 {
				continue
			}
			x := racer(bird, owner, r.Intn(5), 0)
			if x.Rank > 0 {
				x.Day = 1 + r.Intn(2)
			}
			for pool := range race.Pools {
				if r.Intn(3) > 0 {
					x.Pools = append(x.Pools, pool)
				}
			}
			race.Racers = append(race.Racers, x)
		}
		c.Race.Racers, c.Race.Protests = nil, nil
		c = writeAll(t, c, raceLines(r, race))
		for member := range lastMember + 1 {
			expectPurse(t, c, race, day, member)
			sure, _, _ := owners.Birds(c.Stud, day, member)
			seen.note("several birds", len(sure) > 1)
			seen.note("other birds than at first", len(sure) > 0 && c.Stud.Firsts[sure[0]] != member)
		}
	})
	seen.expect(t, 2, rounds/8)
}

// expectPurse checks that a member is paid what all the birds in a race win and get back that the member surely has.
func expectPurse(t *testing.T, c api.Club, race api.Race, day, member int) {
	t.Helper()
	sure, may, e := owners.Birds(c.Stud, day, member)
	if e != api.OK || !slices.Equal(sure, may) {
		t.Errorf("Birds of %d = %v, %v, error %d", member, sure, may, e)
	}
	paid, in := 0, false
	for _, x := range race.Racers {
		if slices.Contains(sure, x.Bird) {
			in = true
			for _, pool := range x.Pools {
				answers, _ := run(t, c, fmt.Sprint("prize ", pool, " ", x.Bird))
				n := numbersOf(t, answers[0])
				paid += n[0] + n[1]
			}
		}
	}
	answers, _ := run(t, c, fmt.Sprint("day ", day), fmt.Sprint("has ", member), fmt.Sprint("purse ", member))
	if has := shown(api.OK, sure...); answers[1] != has+" / "+has {
		t.Errorf("%d has %s, not %s", member, answers[1], has)
	}
	purses, e := prizes.Purses(race)
	i := slices.IndexFunc(purses, func(p api.Purse) bool { return p.Owner == member })
	if e != api.OK || (i >= 0) != in || (answers[2] != "none") != in || in && (purses[i].Paid != paid || numbersOf(t, answers[2])[1] != paid) {
		t.Errorf("the purse of %d is %s, of %+v, and %d is won", member, answers[2], purses, paid)
	}
}

// deedLine returns the line that writes a deed.
func deedLine(d api.Deed) string {
	return fmt.Sprint("deed ", d.Id, " ", d.Ring, " ", d.From, " ", d.To)
}

// byDay returns lines that write deeds day by day, from the first one to the last one on which there is one.
func byDay(deeds []api.Deed) []string {
	var script []string
	days := map[int][]string{}
	for _, d := range deeds {
		days[d.Day] = append(days[d.Day], deedLine(d))
	}
	for _, day := range slices.Sorted(maps.Keys(days)) {
		script = append(append(script, fmt.Sprint("day ", day)), days[day]...)
	}
	return script
}

// TestWrittenDeeds: P0.15.
func TestWrittenDeeds(t *testing.T) {
	seen := tally{}
	eachClub(t, func(r *rand.Rand, c api.Club) {
		more := randomStud(r)
		for i := range more.Deeds {
			more.Deeds[i].Id += lastId + 1
		}
		for i := range more.Voided {
			more.Voided[i] += r.Intn(2) * (lastId + 1)
		}
		want, e := owners.Merge(c.Stud, more.Deeds, more.Voided)
		if e != api.OK {
			t.Errorf("Merge has the error %d", e)
		}
		script := byDay(more.Deeds)
		for _, id := range more.Voided {
			script = slices.Insert(script, r.Intn(len(script)+1), fmt.Sprint("recall ", id))
		}
		if got := writeAll(t, c, script).Stud; !reflect.DeepEqual(tidy(got), tidy(want)) {
			t.Errorf("%q give the stud %+v, not %+v", script, got, want)
		}
		all := c
		all.Stud.Deeds, all.Stud.Voided = nil, nil
		want, _ = owners.Merge(c.Stud, nil, nil)
		script = byDay(c.Stud.Deeds)
		for _, id := range c.Stud.Voided {
			script = append(script, fmt.Sprint("recall ", id))
		}
		if got := writeAll(t, all, script).Stud; !reflect.DeepEqual(tidy(got), tidy(want)) {
			t.Errorf("%q give the stud %+v, not %+v", script, got, want)
		}
		seen.note("deeds on several days", len(script) > 3)
		seen.note("recalls", len(more.Voided) > 0)
	})
	seen.expect(t, 2, rounds/8)
}

// randomSale returns a valid sale of birds of a stud that most of their sellers surely own, so that most lots are sold.
// No recall of the stud comes before its deed.
func randomSale(r *rand.Rand, s api.Stud) api.Sale {
	s.Voided = slices.DeleteFunc(slices.Clone(s.Voided), func(id int) bool {
		return !slices.ContainsFunc(s.Deeds, func(d api.Deed) bool { return d.Id == id })
	})
	sale := api.Sale{Stud: s, Step: 5}
	if len(s.Firsts) == 0 {
		return sale
	}
	for i := range 1 + r.Intn(api.MaxLots) {
		l := api.Lot{Bird: r.Intn(len(s.Firsts)), Day: r.Intn(lastDay + 1), Close: 9, Reserve: 10}
		l.Seller = s.Firsts[l.Bird]
		if l.Day > 0 {
			l.Seller, _ = owners.Owner(s, l.Day-1, l.Bird)
		}
		sale.Lots = append(sale.Lots, l)
		for k := range r.Intn(3) {
			sale.Bids = append(sale.Bids, api.Bid{Id: 3*i + k, At: k, Lot: i, Member: r.Intn(lastMember + 1), Limit: 10 + r.Intn(50)})
		}
	}
	return sale
}

// TestAuction: P0.16.
func TestAuction(t *testing.T) {
	seen := tally{}
	eachClub(t, func(r *rand.Rand, c api.Club) {
		sale := randomSale(r, c.Stud)
		c.Stud = sale.Stud
		deeds, e := sales.Deeds(sale)
		if e == api.ErrMany {
			return
		}
		if e != api.OK {
			t.Errorf("Deeds has the error %d", e)
		}
		c = writeAll(t, c, byDay(deeds))
		sold := deeds
		for n, l := range sale.Lots {
			o, e := sales.Result(sale, n)
			if e != api.OK {
				t.Errorf("Result has the error %d", e)
			}
			if o.State != api.Passed {
				continue
			}
			d := sold[0]
			sold = sold[1:]
			if another(sale.Stud.Deeds, d, true) || another(deeds, d, false) {
				continue
			}
			answers, _ := run(t, c, fmt.Sprint("day ", l.Day), fmt.Sprint("who ", l.Bird))
			if answers[1] == "many" {
				continue
			}
			if !slices.Contains(strings.Fields(answers[1]), fmt.Sprint(o.Winner)) {
				t.Errorf("%d won the lot %d, which can be of %s", o.Winner, n, answers[1])
			}
			seen.note("a sure owner", answers[1] == fmt.Sprint(o.Winner))
			seen.note("several owners", answers[1] != fmt.Sprint(o.Winner))
			seen.note("several deeds", len(deeds) > 1)
			seen.note("a deed of the stud before", another(sale.Stud.Deeds, d, false))
		}
	})
	seen.expect(t, 4, 15)
}

// another tells whether another one of some deeds up to the day of a deed, or just on it, names its ring.
func another(deeds []api.Deed, one api.Deed, onDay bool) bool {
	return slices.ContainsFunc(deeds, func(d api.Deed) bool {
		return d != one && d.Ring == one.Ring && (d.Day == one.Day || d.Day < one.Day && !onDay)
	})
}
