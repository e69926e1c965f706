package strays_test

import (
	"math"
	"reflect"
	"slices"
	"strconv"
	"strings"
	"testing"

	"squeaker/api"
	"squeaker/owners"
	"squeaker/strays"
)

func span(low, high int) api.Span { return api.Span{Low: low, High: high} }

func bird(ring, sex int) api.Bird { return api.Bird{Ring: ring, Sex: sex, Born: span(1, 1)} }

func deed(id, day, ring, from, to int) api.Deed {
	return api.Deed{Id: id, Day: day, Ring: ring, From: from, To: to}
}

// find returns a find, with - for each digit that was not read.
func find(id, day int, digits string, sex, place int) api.Find {
	return api.Find{Id: id, Day: day, Digits: read(digits), Sex: sex, Place: place}
}

func read(digits string) []int {
	var out []int
	for _, d := range digits {
		out = append(out, strings.IndexRune("-0123456789", d)-1)
	}
	return out
}

func home(member, place int) api.Abode { return api.Abode{Member: member, Place: place} }

func carrier(from, to, first, every, takes int) api.Carrier {
	return api.Carrier{From: from, To: to, First: first, Every: every, Takes: takes}
}

// stud is the stud S of chapter 3.
func stud() api.Stud {
	return api.Stud{
		Flock:  api.Flock{Birds: []api.Bird{bird(100, api.Cock), bird(102, api.Hen), bird(102, api.Cock)}},
		Firsts: []int{1, 1, 2},
		Deeds:  []api.Deed{deed(1, 5, 100, 1, 3), deed(2, 6, 102, 1, 2), deed(3, 8, 102, 2, 4), deed(4, 8, 100, 1, 5), deed(5, 9, 102, 4, 3)},
	}
}

// example is the pound B of the chapter.
func example() api.Pound {
	return api.Pound{
		Stud: stud(), Places: 4, Apart: 2,
		Finds: []api.Find{
			find(1, 7, "0102", 0, 0), find(2, 8, "0102", 0, 1), find(3, 8, "01--", api.Cock, 1), find(4, 9, "---3", 0, 2),
			find(5, 8, "0100", 0, 3),
		},
		Homes: []api.Abode{home(1, 0), home(2, 1), home(3, 2), home(4, 3)},
		Carriers: []api.Carrier{
			carrier(0, 1, 0, 7, 1), carrier(1, 2, 3, 5, 2), carrier(2, 3, 0, 10, 1), carrier(0, 2, 9, 30, 9), carrier(3, 0, 1, 2, 1),
		},
	}
}

// changed returns the example with something changed.
func changed(change func(p *api.Pound)) api.Pound {
	p := example()
	change(&p)
	return p
}

// fewer is the pound E of the chapter.
func fewer() api.Pound { return changed(func(p *api.Pound) { p.Finds = p.Finds[:4] }) }

// with returns the example with other finds.
func with(finds ...api.Find) api.Pound { return changed(func(p *api.Pound) { p.Finds = finds }) }

// herd is a pound with finds at 8 places, in which the birds are those of the members 10, 11 and so on.
func herd(birds []api.Bird, apart int, finds ...api.Find) api.Pound {
	p := api.Pound{Places: api.MaxPlaces, Apart: apart, Finds: finds}
	p.Stud.Flock.Birds = birds
	for i := range birds {
		p.Stud.Firsts = append(p.Stud.Firsts, 10+i)
	}
	return p
}

// all returns ten birds, of which 8 have 1 as the first digit, 7 as the second, 6 as the third and 2 as the last one.
func all() []api.Bird {
	var birds []api.Bird
	for _, ring := range []int{1111, 1111, 1110, 1110, 1110, 1110, 1100, 1000, 0, 0} {
		birds = append(birds, bird(ring, api.Cock))
	}
	return birds
}

// many returns finds with the Ids from first on.
func many(first, n int) []api.Find {
	var finds []api.Find
	for i := range n {
		finds = append(finds, find(first+i, 3, "0100", 0, 0))
	}
	return finds
}

// tooFarFrom returns numbers that are not within limits.
func tooFarFrom(low, high int) []int { return []int{low - 1, high + 1, math.MinInt, math.MaxInt} }

// A field is a number of a pound, its limits, and how it is set.
type field struct {
	name      string
	low, high int
	set       func(p *api.Pound, n int)
}

// fields returns all numbers of the example that have limits, as they are with the others.
func fields() []field {
	out := []field{
		{"Places", 4, api.MaxPlaces, func(p *api.Pound, n int) { p.Places = n }},
		{"Apart", 0, api.MaxApart, func(p *api.Pound, n int) { p.Apart = n }},
	}
	for i := range example().Finds {
		of := " of the find " + strconv.Itoa(i)
		out = append(out,
			field{"Id" + of, 0, api.MaxMember, func(p *api.Pound, n int) { p.Finds[i].Id = n }},
			field{"Day" + of, 0, api.MaxDay, func(p *api.Pound, n int) { p.Finds[i].Day = n }},
			field{"Sex" + of, 0, api.Hen, func(p *api.Pound, n int) { p.Finds[i].Sex = n }},
			field{"Place" + of, 0, 3, func(p *api.Pound, n int) { p.Finds[i].Place = n }})
		for k := range 4 {
			out = append(out, field{"digit " + strconv.Itoa(k) + of, -1, 9, func(p *api.Pound, n int) { p.Finds[i].Digits[k] = n }})
		}
	}
	for i := range example().Homes {
		of := " of the home " + strconv.Itoa(i)
		out = append(out,
			field{"Member" + of, 0, api.MaxMember, func(p *api.Pound, n int) { p.Homes[i].Member = n }},
			field{"Place" + of, 0, 3, func(p *api.Pound, n int) { p.Homes[i].Place = n }})
	}
	for i := range example().Carriers {
		of := " of the carrier " + strconv.Itoa(i)
		out = append(out,
			field{"From" + of, 0, 3, func(p *api.Pound, n int) { p.Carriers[i].From, p.Carriers[i].To = n, 1 }},
			field{"To" + of, 0, 3, func(p *api.Pound, n int) { p.Carriers[i].From, p.Carriers[i].To = 2, n }},
			field{"First" + of, 0, api.MaxDay, func(p *api.Pound, n int) { p.Carriers[i].First = n }},
			field{"Every" + of, 1, api.MaxEvery, func(p *api.Pound, n int) { p.Carriers[i].Every = n }},
			field{"Takes" + of, 1, api.MaxEvery, func(p *api.Pound, n int) { p.Carriers[i].Takes = n }})
	}
	return out
}

// invalid returns pounds each of which breaks one rule, by what is broken.
func invalid() map[string]api.Pound {
	homes := func(n int) []api.Abode {
		var out []api.Abode
		for member := range n {
			out = append(out, home(member, 0))
		}
		return out
	}
	out := map[string]api.Pound{
		"nothing":            {},
		"a find too many":    with(many(0, api.MaxFinds+1)...),
		"a find too often":   with(slices.Repeat(many(0, 1), api.MaxFinds+1)...),
		"no digits":          with(find(1, 7, "", 0, 0)),
		"a digit too few":    with(find(1, 7, "010", 0, 0)),
		"a digit too many":   with(find(1, 7, "01020", 0, 0)),
		"a digit unread":     with(find(2, 7, "0102", 0, 0), find(1, 7, "0102-", 0, 0)),
		"a home too many":    changed(func(p *api.Pound) { p.Homes = homes(api.MaxAbodes + 1) }),
		"a home twice":       changed(func(p *api.Pound) { p.Homes = append(p.Homes, p.Homes[0]) }),
		"two homes":          changed(func(p *api.Pound) { p.Homes[3].Member = 2 }),
		"a carrier too many": changed(func(p *api.Pound) { p.Carriers = slices.Repeat(p.Carriers[:1], api.MaxCarriers+1) }),
		"no place":           changed(func(p *api.Pound) { p.Places, p.Finds, p.Homes, p.Carriers = 0, nil, nil, nil }),
	}
	for i := range 5 {
		out["from a place to itself, "+strconv.Itoa(i)] = changed(func(p *api.Pound) { p.Carriers[i].To = p.Carriers[i].From })
	}
	for _, f := range fields() {
		for _, n := range tooFarFrom(f.low, f.high) {
			out[f.name+" "+strconv.Itoa(n)] = changed(func(p *api.Pound) { f.set(p, n) })
		}
	}
	return out
}

// clashing returns valid pounds with finds that clash, by what is not equal.
func clashing() map[string]api.Pound {
	out := map[string]api.Pound{}
	for name, f := range map[string]api.Find{
		"Day":         find(1, 8, "0102", 0, 0),
		"first digit": find(1, 7, "-102", 0, 0),
		"last digit":  find(1, 7, "0100", 0, 0),
		"Sex":         find(1, 7, "0102", api.Hen, 0),
		"Place":       find(1, 7, "0102", 0, 3),
		"strange":     find(1, 7, "9102", 0, 0),
	} {
		out[name] = changed(func(p *api.Pound) { p.Finds = append(p.Finds, f) })
		out[name+", first"] = changed(func(p *api.Pound) { p.Finds = slices.Insert(p.Finds, 0, f) })
		out[name+", beside equal ones"] = with(example().Finds[0], example().Finds[0], f, f)
	}
	return out
}

// wrongStuds returns pounds with a stud that is not valid, or whose deeds clash.
func wrongStuds() map[string]api.Pound {
	out := map[string]api.Pound{}
	for name, change := range map[string]func(s *api.Stud){
		"a ring that is none":   func(s *api.Stud) { s.Flock.Birds[1].Ring = api.MaxRing + 1 },
		"a sex that is none":    func(s *api.Stud) { s.Flock.Birds[0].Sex = 0 },
		"a first owner too few": func(s *api.Stud) { s.Firsts = s.Firsts[:2] },
		"a deed too often":      func(s *api.Stud) { s.Deeds = slices.Repeat(s.Deeds[:1], api.MaxDeeds+1) },
		"a deed on no day":      func(s *api.Stud) { s.Deeds[4].Day = api.MaxDay + 1 },
		"a recall of no deed":   func(s *api.Stud) { s.Voided = []int{api.MaxMember + 1} },
		"deeds that clash":      func(s *api.Stud) { s.Deeds = append(s.Deeds, deed(1, 5, 100, 1, 4)) },
		"a voided one clashes":  func(s *api.Stud) { s.Deeds, s.Voided = append(s.Deeds, deed(1, 5, 100, 1, 4)), []int{1} },
	} {
		out[name] = changed(func(p *api.Pound) { change(&p.Stud) })
	}
	return out
}

// studError returns the error of the stud of a pound, ErrStud or ErrDeed.
func studError(t *testing.T, p api.Pound) api.Errno {
	t.Helper()
	e := owners.Check(p.Stud)
	if e != api.ErrStud && e != api.ErrDeed {
		t.Fatalf("Check of owners = %d", e)
	}
	return e
}

// crowded returns pounds of which there are too many ownerships after some deed, or too many ways to mean birds.
func crowded() map[string]api.Pound {
	var late api.Stud
	late.Flock.Birds, late.Firsts = slices.Repeat([]api.Bird{bird(102, api.Hen)}, 8), make([]int, 8)
	late.Deeds = []api.Deed{deed(1, 1, 102, 0, 1), deed(2, 1, 102, 0, 2), deed(3, api.MaxDay, 102, 0, 3)}
	brief := late
	brief.Deeds = append(slices.Clone(late.Deeds[:2]), deed(3, 2, 102, 0, 3), deed(4, 3, 102, 1, 0), deed(5, 3, 102, 2, 0), deed(6, 3, 102, 3, 0))
	two := []api.Find{find(1, 7, "1111", 0, 0), find(2, 7, "1111", 0, 1), find(3, 7, "1111", 0, 2)}
	out := map[string]api.Pound{
		"ownerships on the last day": changed(func(p *api.Pound) { p.Stud = late }),
		"ownerships for a while":     changed(func(p *api.Pound) { p.Stud = brief }),
		"ownerships, and no finds":   changed(func(p *api.Pound) { p.Stud, p.Finds = late, nil }),
		"4116 ways": herd(all(), 0, find(1, 7, "-1--", 0, 0), find(2, 7, "-1--", 0, 0), find(3, 7, "-1--", 0, 0),
			find(4, 7, "--1-", 0, 0), find(5, 7, "---1", 0, 0)),
		"4116 ways, and a strange one": herd(all(), 0, find(9, 7, "2---", 0, 0), find(1, 7, "-1--", 0, 0), find(2, 7, "-1--", 0, 0),
			find(3, 7, "-1--", 0, 0), find(4, 7, "--1-", 0, 0), find(5, 7, "---1", 0, 0)),
		"a million ways": herd(all(), 0, find(1, 7, "----", 0, 0), find(2, 7, "----", 0, 0), find(3, 7, "----", 0, 0),
			find(4, 7, "----", 0, 0), find(5, 7, "----", 0, 0), find(6, 7, "----", 0, 0)),
		"no truth": herd(all(), 1, append(two, find(4, 7, "----", 0, 0), find(5, 7, "----", 0, 0), find(6, 7, "----", 0, 0))...),
	}
	for name, p := range out {
		p.Places, p.Homes, p.Carriers = 4, example().Homes, example().Carriers
		out[name] = p
	}
	return out
}

// most has 4096 ways to mean birds, beside a find that is strange, and one that came twice.
func most() api.Pound {
	finds := []api.Find{find(1, 7, "1---", 0, 0), find(2, 7, "1---", 0, 0), find(9, 7, "2---", 0, 0), find(3, 7, "1---", 0, 0),
		find(4, 7, "1---", 0, 0), find(1, 7, "1---", 0, 0)}
	return herd(all(), 30, finds...)
}

// impossible has no truth: one bird was found at two places on the same day.
func impossible() api.Pound {
	return changed(func(p *api.Pound) { p.Finds = append(p.Finds, find(6, 8, "0100", 0, 2)) })
}

// An answer is what a function returned, without its error, and the error.
type answer struct {
	results []any
	e       api.Errno
}

// A question is all that the functions ask beside the pound.
type question struct{ find, other, place, day, member int }

// usual can be asked of the example.
var usual = question{1, 2, 0, 7, 2}

// ask calls each function of a pound.
func ask(p api.Pound, q question) map[string]answer {
	out := map[string]answer{"Check": {nil, strays.Check(p)}}
	put := func(name string, e api.Errno, result any) { out[name] = answer{[]any{result}, e} }
	list := func(name string, e api.Errno, l []int) { put(name, e, append([]int(nil), l...)) }
	strange, e := strays.Strange(p)
	list("Strange", e, strange)
	birds, e := strays.Birds(p, q.find)
	list("Birds", e, birds)
	leads, e := strays.Leads(p, q.find)
	list("Leads", e, leads)
	doubt, e := strays.Doubt(p, q.find)
	put("Doubt", e, doubt)
	same, e := strays.Same(p, q.find, q.other)
	put("Same", e, same)
	way, e := strays.Way(p, q.place, q.day, q.member)
	put("Way", e, way)
	due, e := strays.Due(p, q.find)
	put("Due", e, due)
	return out
}

// expectErrors checks the errors of all functions: others, but for those that are named; and the zero values.
func expectErrors(t *testing.T, name string, got map[string]answer, others api.Errno, named map[string]api.Errno) {
	t.Helper()
	for function, a := range got {
		want, ok := named[function]
		if !ok {
			want = others
		}
		if a.e != want {
			t.Errorf("%s: %s has the error %d, not %d", name, function, a.e, want)
		}
		for _, r := range a.results {
			if a.e != api.OK && !reflect.ValueOf(r).IsZero() {
				t.Errorf("%s: %s returns %v with an error", name, function, r)
			}
		}
	}
}

// errors returns the same error of some functions.
func errors(e api.Errno, functions ...string) map[string]api.Errno {
	out := map[string]api.Errno{}
	for _, name := range functions {
		out[name] = e
	}
	return out
}

// free returns no errors of the functions that ask neither for a truth nor for a limit.
func free() map[string]api.Errno { return errors(api.OK, "Check", "Strange", "Way") }

// aboutFinds are the functions that are given a find.
var aboutFinds = []string{"Birds", "Leads", "Doubt", "Same", "Due"}

// wrongQuestions returns questions to the example, each of which has one thing that is not as described, and the
// functions that ask for it.
func wrongQuestions() (questions []question, asking [][]string) {
	add := func(change func(q *question), functions ...string) {
		q := usual
		change(&q)
		questions, asking = append(questions, q), append(asking, functions)
	}
	for _, n := range append(tooFarFrom(0, api.MaxMember), 0, 4, 6, 99) {
		add(func(q *question) { q.find = n }, aboutFinds...)
		add(func(q *question) { q.other = n }, "Same")
	}
	for _, n := range tooFarFrom(0, 3) {
		add(func(q *question) { q.place = n }, "Way")
	}
	for _, n := range tooFarFrom(0, api.MaxDay) {
		add(func(q *question) { q.day = n }, "Way")
	}
	for _, n := range append(tooFarFrom(0, api.MaxMember), 0, 5, 99) {
		add(func(q *question) { q.member = n }, "Way")
	}
	return questions, asking
}

// TestErrors: P1, with the errors in their order and zero values beside them.
func TestErrors(t *testing.T) {
	questions, asking := wrongQuestions()
	for _, q := range append(questions, usual) {
		for name, p := range wrongStuds() {
			expectErrors(t, name, ask(p, q), studError(t, p), nil)
		}
		for name, p := range invalid() {
			expectErrors(t, name, ask(p, q), api.ErrPound, nil)
		}
		for name, p := range clashing() {
			expectErrors(t, name, ask(p, q), api.ErrFind, nil)
		}
	}
	for name, p := range crowded() {
		expectErrors(t, name, ask(p, usual), api.ErrMany, free())
	}
	for i, q := range questions {
		expectErrors(t, "example", ask(example(), q), api.OK, errors(api.ErrArg, asking[i]...))
		for name, p := range crowded() {
			named := free()
			if slices.Contains(asking[i], "Way") {
				named["Way"] = api.ErrArg
			}
			expectErrors(t, name, ask(p, q), api.ErrMany, named)
		}
	}
	expectErrors(t, "example", ask(example(), usual), api.OK, nil)
	expectErrors(t, "no truth", ask(impossible(), usual), api.ErrNone, free())
	expectErrors(t, "no way", ask(example(), question{1, 2, 0, api.MaxDay, 2}), api.OK, errors(api.ErrNone, "Way"))
	expectErrors(t, "at home", ask(example(), question{1, 2, 0, api.MaxDay, 1}), api.OK, nil)
	expectErrors(t, "4096 ways", ask(most(), question{find: 1, other: 4}), api.OK, errors(api.ErrArg, "Way", "Due"))
	nothing := errors(api.ErrArg, append(aboutFinds, "Way")...)
	expectErrors(t, "no birds", ask(api.Pound{Places: 1}, question{}), api.OK, nothing)
}

// TestFirstError: P1, of several errors the first one is returned.
func TestFirstError(t *testing.T) {
	twins := []api.Find{find(40, 1, "----", 0, 0), find(40, 1, "1---", 0, 0)}
	wrong := question{find: -1, other: -1, place: -1, day: -1, member: -1}
	for name, p := range wrongStuds() {
		p.Finds = twins
		expectErrors(t, name+" and a clash", ask(p, wrong), studError(t, p), nil)
		p.Places = 0
		expectErrors(t, name+" and no place", ask(p, wrong), studError(t, p), nil)
	}
	for name, p := range invalid() {
		if len(p.Finds) > 0 && len(p.Finds) <= api.MaxFinds {
			p.Finds = append(p.Finds[:len(p.Finds):len(p.Finds)], find(p.Finds[0].Id, 9999, "9999", 0, 0))
			expectErrors(t, name+" and a clash", ask(p, wrong), api.ErrPound, nil)
		}
	}
	for name, p := range crowded() {
		p.Finds = slices.Concat(p.Finds[:min(4, len(p.Finds))], twins)
		expectErrors(t, name+" and a clash", ask(p, wrong), api.ErrFind, nil)
		p.Apart = -1
		expectErrors(t, name+" and not apart", ask(p, wrong), api.ErrPound, nil)
	}
	for name, p := range crowded() {
		named := free()
		named["Way"] = api.ErrArg
		expectErrors(t, name+" and no find", ask(p, wrong), api.ErrMany, named)
	}
	expectErrors(t, "no truth and no find", ask(impossible(), wrong), api.ErrArg, errors(api.OK, "Check", "Strange"))
	strange := usual
	strange.find = 4
	expectErrors(t, "no truth and a strange find", ask(impossible(), strange), api.ErrArg, free())
	other := usual
	other.other = 4
	named := free()
	named["Same"] = api.ErrArg
	expectErrors(t, "no truth and a strange one", ask(impossible(), other), api.ErrNone, named)
	homeless := impossible()
	homeless.Homes = nil
	expectErrors(t, "no truth and no home", ask(homeless, usual), api.ErrNone, map[string]api.Errno{"Check": api.OK, "Strange": api.OK, "Way": api.ErrArg})
}

// TestCheck: P13.1.
func TestCheck(t *testing.T) {
	for name, p := range map[string]api.Pound{
		"the least":            {Places: 1},
		"empty lists":          {Places: 1, Finds: []api.Find{}, Homes: []api.Abode{}, Carriers: []api.Carrier{}},
		"the example":          example(),
		"all finds":            with(many(0, api.MaxFinds)...),
		"a find often":         with(slices.Repeat(many(0, 1), api.MaxFinds)...),
		"finds but for the Id": with(find(1, 7, "0102", 0, 0), find(2, 7, "0102", 0, 0)),
		"equal finds":          with(find(1, 7, "0102", 0, 0), find(2, 7, "0102", 0, 1), find(1, 7, "0102", 0, 0)),
		"a strange find":       with(find(1, 7, "9999", 0, 0)),
		"nothing read":         with(find(1, 7, "----", 0, 0)),
		"no truth":             impossible(),
		"4096 ways":            most(),
		"all homes": changed(func(p *api.Pound) {
			p.Homes = nil
			for i := range api.MaxAbodes {
				p.Homes = append(p.Homes, home(api.MaxMember-i, i%4))
			}
		}),
		"all carriers": changed(func(p *api.Pound) { p.Carriers = slices.Repeat(p.Carriers[:1], api.MaxCarriers) }),
	} {
		if e := strays.Check(p); e != api.OK {
			t.Errorf("%s: Check = %d", name, e)
		}
	}
	for _, f := range fields() {
		for _, n := range []int{f.low, f.high} {
			if e := strays.Check(changed(func(p *api.Pound) { f.set(p, n) })); e != api.OK {
				t.Errorf("%s %d: Check = %d", f.name, n, e)
			}
		}
	}
	for name, p := range wrongStuds() {
		if e := strays.Check(p); e != studError(t, p) {
			t.Errorf("%s: Check = %d", name, e)
		}
	}
	for name, p := range invalid() {
		if e := strays.Check(p); e != api.ErrPound {
			t.Errorf("%s: Check = %d", name, e)
		}
	}
	for name, p := range clashing() {
		if e := strays.Check(p); e != api.ErrFind {
			t.Errorf("%s: Check = %d", name, e)
		}
	}
	for name, p := range crowded() {
		if e := strays.Check(p); e != api.OK {
			t.Errorf("%s: Check = %d", name, e)
		}
	}
}

// A wanted is what a find of a pound is wanted to mean.
type wanted struct {
	find         int
	birds, leads []int
	doubt        int
}

// expectFinds checks what finds of a pound mean, and to whom they lead.
func expectFinds(t *testing.T, name string, p api.Pound, want ...wanted) {
	t.Helper()
	for _, w := range want {
		if got, e := strays.Birds(p, w.find); !slices.Equal(got, w.birds) || e != api.OK {
			t.Errorf("%s: Birds of %d = %v, %d, not %v", name, w.find, got, e, w.birds)
		}
		if got, e := strays.Leads(p, w.find); !slices.Equal(got, w.leads) || e != api.OK {
			t.Errorf("%s: Leads of %d = %v, %d, not %v", name, w.find, got, e, w.leads)
		}
		if got, e := strays.Doubt(p, w.find); got != w.doubt || e != api.OK {
			t.Errorf("%s: Doubt of %d = %d, %d, not %d", name, w.find, got, e, w.doubt)
		}
	}
}

// expectSame checks whether two finds are the same, whichever is asked for first.
func expectSame(t *testing.T, name string, p api.Pound, a, b, want int) {
	t.Helper()
	for _, q := range [][2]int{{a, b}, {b, a}} {
		if got, e := strays.Same(p, q[0], q[1]); got != want || e != api.OK {
			t.Errorf("%s: Same of %d and %d = %d, %d, not %d", name, q[0], q[1], got, e, want)
		}
	}
	for _, q := range []int{a, b} {
		if got, e := strays.Same(p, q, q); got != api.Surely || e != api.OK {
			t.Errorf("%s: Same of %d twice = %d, %d", name, q, got, e)
		}
	}
}

// expectWay checks a way, for which 0 stands for none.
func expectWay(t *testing.T, name string, p api.Pound, place, day, member, want int) {
	t.Helper()
	error := api.OK
	if want == 0 {
		error = api.ErrNone
	}
	if got, e := strays.Way(p, place, day, member); got != want || e != error {
		t.Errorf("%s: Way from %d on %d to %d = %d, %d, not %d", name, place, day, member, got, e, want)
	}
}

func expectDue(t *testing.T, name string, p api.Pound, find int, want api.Span, error api.Errno) {
	t.Helper()
	if got, e := strays.Due(p, find); got != want || e != error {
		t.Errorf("%s: Due of %d = %v, %d, not %v, %d", name, find, got, e, want, error)
	}
}

func expectStrange(t *testing.T, name string, p api.Pound, want ...int) {
	t.Helper()
	if got, e := strays.Strange(p); !slices.Equal(got, want) || e != api.OK {
		t.Errorf("%s: Strange = %v, %d, not %v", name, got, e, want)
	}
}

// TestExample: P13.2 to P13.8, the examples of the chapter.
func TestExample(t *testing.T) {
	b, e := example(), fewer()
	expectStrange(t, "B", b, 4)
	expectFinds(t, "B", b,
		wanted{1, []int{1}, []int{2}, api.NoDoubt},
		wanted{2, []int{2}, []int{2, 4}, api.Unowned},
		wanted{3, []int{2}, []int{2, 4}, api.Unowned},
		wanted{5, []int{0}, []int{3}, api.NoDoubt})
	expectFinds(t, "E", e,
		wanted{1, []int{1, 2}, []int{2}, api.NoDoubt},
		wanted{2, []int{1, 2}, []int{2, 4}, api.DoubledRing},
		wanted{3, []int{0, 2}, []int{2, 3, 4}, api.Unread})
	expectSame(t, "B", b, 2, 3, api.Surely)
	expectSame(t, "B", b, 1, 2, api.Never)
	expectSame(t, "E", e, 2, 3, api.Perhaps)
	expectSame(t, "E", e, 1, 3, api.Never)
	for _, w := range [][2]int{{2, 8}, {3, 10}, {4, 11}, {1, 7}} {
		expectWay(t, "B", b, 0, 7, w[0], w[1])
	}
	expectDue(t, "B", b, 2, span(8, 11), api.OK)
	// The chapter's table has 18 to 18 here. Its text has no way on which the bird is home then: the only carrier from the
	// place 3 leaves on odd days, and so takes it on 9, a day too late for the one that goes from 0 to 2 on 9; the next
	// ways are the one by 1, on 14 and 18, and the straight one on 39.
	expectDue(t, "B", b, 5, span(20, 20), api.OK)
}

// TestStrange: P13.2, and which finds fit which birds.
func TestStrange(t *testing.T) {
	birds := []api.Bird{bird(0, api.Cock), bird(7, api.Hen), bird(70, api.Cock), bird(1234, api.Hen), bird(9999, api.Cock)}
	for digits, fits := range map[string][]int{
		"----": {0, 1, 2, 3, 4}, "0000": {0}, "0007": {1}, "7---": nil, "---7": {1}, "--7-": {2}, "0070": {2}, "0---": {0, 1, 2},
		"-0--": {0, 1, 2}, "--0-": {0, 1}, "---0": {0, 2}, "1234": {3}, "4321": nil, "1---": {3}, "-2--": {3}, "--3-": {3}, "---4": {3},
		"1235": nil, "0234": nil, "9999": {4}, "9-99": {4}, "99-8": nil, "12-4": {3}, "13-4": nil, "0-0-": {0, 1}, "8888": nil,
	} {
		for sex := range 3 {
			want := slices.DeleteFunc(slices.Clone(fits), func(i int) bool { return sex > 0 && birds[i].Sex != sex })
			p := herd(birds, 30, find(8, 7, digits, sex, 0))
			if len(want) == 0 {
				expectStrange(t, digits, p, 8)
				continue
			}
			expectStrange(t, digits, p)
			if got, e := strays.Birds(p, 8); !slices.Equal(got, want) || e != api.OK {
				t.Errorf("Birds of %s, %d = %v, %d, not %v", digits, sex, got, e, want)
			}
		}
	}
	bad := func(id int) api.Find { return find(id, id, "9---", 0, id%4) }
	good := find(0, 3, "----", 0, 0)
	expectStrange(t, "in any order", with(bad(99), good, bad(3), bad(50), bad(1)), 1, 3, 50, 99)
	expectStrange(t, "twice", with(bad(7), bad(2), bad(7), bad(2), good, good), 2, 7)
	expectStrange(t, "no finds", with())
	expectStrange(t, "no birds", api.Pound{Places: 1, Finds: []api.Find{find(9, 0, "----", 0, 0), find(0, 0, "----", 0, 0)}}, 0, 9)
	expectStrange(t, "no truth", impossible(), 4)
	expectStrange(t, "4096 ways", most(), 9)
	expectStrange(t, "4116 ways", crowded()["4116 ways, and a strange one"], 9)
}

// TestApart: P13.3 and P13.6, finds at different places mean the same bird only on days that are apart.
func TestApart(t *testing.T) {
	two := []api.Bird{bird(100, api.Cock), bird(102, api.Hen)}
	any := func(id, day, place int) api.Find { return find(id, day, "----", 0, place) }
	both := []int{0, 1}
	for name, c := range map[string]struct {
		apart, day, place, same int
	}{
		"a place":                {30, 7, 3, api.Perhaps},
		"a place, another day":   {30, 8, 3, api.Perhaps},
		"the same day":           {1, 7, 4, api.Never},
		"the same day, at once":  {0, 7, 4, api.Perhaps},
		"a day":                  {1, 8, 4, api.Perhaps},
		"a day, not two":         {2, 8, 4, api.Never},
		"a day, the other way":   {1, 6, 4, api.Perhaps},
		"a day before, not two":  {2, 6, 2, api.Never},
		"long before":            {7, 0, 2, api.Perhaps},
		"not long enough before": {8, 0, 2, api.Never},
		"30 days":                {30, 37, 4, api.Perhaps},
		"29 days":                {30, 36, 4, api.Never},
	} {
		p := herd(two, c.apart, any(1, 7, 3), any(2, c.day, c.place))
		expectSame(t, name, p, 1, 2, c.same)
		expectFinds(t, name, p, wanted{1, both, []int{10, 11}, api.Unread}, wanted{2, both, []int{10, 11}, api.Unread})
		p.Finds[1].Digits = read("0102")
		one, other := both, api.Perhaps
		if c.same == api.Never {
			one, other = []int{0}, api.Never
		}
		expectSame(t, name+", read", p, 1, 2, other)
		if got, e := strays.Birds(p, 1); !slices.Equal(got, one) || e != api.OK {
			t.Errorf("%s: Birds of 1 = %v, %d, not %v", name, got, e, one)
		}
		p.Finds[0].Digits = read("01-2")
		_, e := strays.Same(p, 1, 2)
		if want := c.same == api.Never; (e == api.ErrNone) != want || !want && e != api.OK {
			t.Errorf("%s: Same of 1 and 2 has the error %d", name, e)
		}
	}
}

// TestBirds: P13.3 to P13.6, with what other finds leave open.
func TestBirds(t *testing.T) {
	three := []api.Bird{bird(100, api.Cock), bird(102, api.Hen), bird(202, api.Cock)}
	chain := herd(three, 30, find(1, 7, "0100", 0, 0), find(2, 7, "010-", 0, 1), find(3, 7, "-10-", 0, 2), find(4, 7, "--0-", 0, 2))
	chain.Finds[2].Digits = read("--0-")
	expectFinds(t, "a chain", chain,
		wanted{1, []int{0}, []int{10}, api.NoDoubt}, wanted{2, []int{1}, []int{11}, api.NoDoubt},
		wanted{3, []int{2}, []int{12}, api.NoDoubt}, wanted{4, []int{2}, []int{12}, api.NoDoubt})
	expectSame(t, "a chain", chain, 3, 4, api.Surely)
	expectSame(t, "a chain", chain, 1, 4, api.Never)
	ring := herd(three, 30, find(1, 7, "---2", 0, 0), find(2, 7, "---2", 0, 1), find(3, 7, "----", 0, 2))
	expectFinds(t, "two for two", ring,
		wanted{1, []int{1, 2}, []int{11, 12}, api.Unread}, wanted{2, []int{1, 2}, []int{11, 12}, api.Unread},
		wanted{3, []int{0}, []int{10}, api.NoDoubt})
	expectSame(t, "two for two", ring, 1, 2, api.Never)
	ring.Finds = append(ring.Finds, find(4, 7, "---2", 0, 0), find(5, 7, "---2", 0, 1))
	expectSame(t, "two for two, each twice", ring, 1, 4, api.Surely)
	expectSame(t, "two for two, each twice", ring, 1, 5, api.Never)
	later := herd(three, 3, find(1, 7, "----", 0, 0), find(2, 9, "0100", 0, 1), find(3, 10, "0102", 0, 1), find(4, 7, "02--", 0, 0))
	expectFinds(t, "later", later, wanted{1, []int{1, 2}, []int{11, 12}, api.Unread})
	expectSame(t, "later", later, 1, 3, api.Perhaps)
	expectSame(t, "later", later, 1, 2, api.Never)
	expectSame(t, "later", later, 1, 4, api.Perhaps)
	strange := herd(three, 30, find(1, 7, "---2", 0, 0), find(2, 7, "0103", 0, 1))
	expectFinds(t, "a strange one means nothing", strange, wanted{1, []int{1, 2}, []int{11, 12}, api.Unread})
	first := []int{0, 1, 2, 3, 4, 5, 6, 7}
	expectFinds(t, "4096 ways", most(), wanted{4, first, []int{10, 11, 12, 13, 14, 15, 16, 17}, api.Unread})
	expectSame(t, "4096 ways", most(), 1, 4, api.Perhaps)
	twice := with(find(0, 7, "0102", 0, 0), find(99, 8, "0102", 0, 1), find(0, 7, "0102", 0, 0))
	expectFinds(t, "Ids at the ends", twice, wanted{0, []int{1, 2}, []int{2}, api.NoDoubt}, wanted{99, []int{1, 2}, []int{2, 4}, api.DoubledRing})
}

// TestLeads: P13.4 and P13.5, with owners that change.
func TestLeads(t *testing.T) {
	for name, c := range map[string]struct {
		p    api.Pound
		want wanted
	}{
		"before a deed":          {with(find(1, 4, "0100", 0, 0)), wanted{1, []int{0}, []int{1}, api.NoDoubt}},
		"on the day of a deed":   {with(find(1, 5, "0100", 0, 0)), wanted{1, []int{0}, []int{3}, api.NoDoubt}},
		"long after":             {with(find(1, api.MaxDay, "0100", 0, 0)), wanted{1, []int{0}, []int{3}, api.NoDoubt}},
		"the first day":          {with(find(1, 0, "0102", 0, 0)), wanted{1, []int{1, 2}, []int{1, 2}, api.DoubledRing}},
		"a doubled ring, by sex": {with(find(1, 0, "0102", api.Hen, 0)), wanted{1, []int{1}, []int{1}, api.NoDoubt}},
		"by sex, the other one":  {with(find(1, 0, "0102", api.Cock, 0)), wanted{1, []int{2}, []int{2}, api.NoDoubt}},
		"a doubled ring, one":    {with(find(1, 7, "0102", 0, 0)), wanted{1, []int{1, 2}, []int{2}, api.NoDoubt}},
		"unread, one owner":      {with(find(1, 4, "010-", api.Hen, 0)), wanted{1, []int{1}, []int{1}, api.NoDoubt}},
		"unread, several":        {with(find(1, 4, "010-", 0, 0)), wanted{1, []int{0, 1, 2}, []int{1, 2}, api.Unread}},
		"unread, and not known":  {with(find(1, 8, "----", 0, 0)), wanted{1, []int{0, 1, 2}, []int{2, 3, 4}, api.Unread}},
		"unread, a doubled ring": {with(find(1, 0, "---2", 0, 0)), wanted{1, []int{1, 2}, []int{1, 2}, api.DoubledRing}},
		"nobody knows":           {with(find(1, 8, "0102", api.Hen, 0)), wanted{1, []int{1}, []int{2, 4}, api.Unowned}},
		"nobody knows any more":  {with(find(1, 9, "0102", api.Hen, 0)), wanted{1, []int{1}, []int{2, 3}, api.Unowned}},
	} {
		expectFinds(t, name, c.p, c.want)
		c.p.Homes, c.p.Carriers = nil, nil
		expectFinds(t, name+", no homes", c.p, c.want)
	}
	recalled := with(find(1, 8, "0102", 0, 0))
	recalled.Stud.Voided = []int{2}
	expectFinds(t, "a deed that was recalled", recalled, wanted{1, []int{1, 2}, []int{1, 4}, api.DoubledRing})
	one := with(find(1, 7, "010-", 0, 0))
	one.Stud.Deeds = one.Stud.Deeds[1:2]
	one.Stud.Firsts[0] = 2
	expectFinds(t, "one owner of several rings", one, wanted{1, []int{0, 1, 2}, []int{2}, api.NoDoubt})
	mixed := with(find(1, 8, "010-", api.Cock, 0))
	mixed.Stud.Flock.Birds[0].Ring, mixed.Stud.Flock.Birds[2].Ring = 101, 100
	mixed.Stud.Deeds = nil
	expectFinds(t, "two rings, the last one doubled", mixed, wanted{1, []int{0, 2}, []int{1, 2}, api.Unread})
}

// road returns a pound with 8 places, carriers, and a home of the member n at each place n.
func road(carriers ...api.Carrier) api.Pound {
	p := api.Pound{Places: api.MaxPlaces, Carriers: carriers}
	for place := range api.MaxPlaces {
		p.Homes = append(p.Homes, home(place, place))
	}
	return p
}

// TestWay: P13.7.
func TestWay(t *testing.T) {
	one := carrier(0, 1, 100, 7, 3)
	chain := []api.Carrier{carrier(0, 5, 3, 10, 2), carrier(5, 2, 0, 3, 1), carrier(2, 7, 1, 4, 1), carrier(7, 1, 9, 9, 9), carrier(1, 6, 0, 1, 1), carrier(6, 4, 30, 30, 30), carrier(4, 3, 5, 6, 7)}
	backwards := slices.Clone(chain)
	slices.Reverse(backwards)
	type step struct{ from, day, to, want int }
	for name, c := range map[string]struct {
		p     api.Pound
		steps []step
	}{
		"no carriers": {road(), []step{{3, 5, 3, 5}, {3, 5, 4, 0}, {3, api.MaxDay, 3, api.MaxDay}}},
		"one":         {road(one), []step{{0, 1, 1, 103}, {0, 99, 1, 103}, {0, 100, 1, 103}, {0, 101, 1, 110}, {0, 107, 1, 110}, {0, 108, 1, 117}, {1, 100, 0, 0}, {0, 100, 2, 0}, {2, 100, 1, 0}, {0, 100, 0, 100}}},
		"each day":    {road(carrier(0, 1, 100, 1, 1)), []step{{0, 1, 1, 101}, {0, 100, 1, 101}, {0, 101, 1, 102}, {0, 102, 1, 103}}},
		"the last days": {road(carrier(0, 1, 0, 1, 3), carrier(0, 2, 9990, 6, 3), carrier(0, 3, 9999, 1, 1), carrier(0, 4, 9998, 30, 1)),
			[]step{{0, 9996, 1, 9999}, {0, 9997, 1, 0}, {0, 9999, 1, 0}, {0, 9996, 2, 9999}, {0, 9997, 2, 0}, {0, 0, 3, 0}, {0, 9998, 4, 9999}, {0, 9999, 4, 0}}},
		"back from too late":      {road(carrier(0, 1, 9999, 1, 1), carrier(1, 2, 0, 1, 1), carrier(0, 2, 9998, 30, 1)), []step{{0, 1, 2, 9999}, {0, 9999, 2, 0}, {0, 1, 1, 0}}},
		"on the same day":         {road(carrier(0, 1, 10, 30, 5), carrier(1, 2, 15, 30, 5)), []step{{0, 10, 2, 20}, {0, 11, 2, 50}, {1, 15, 2, 20}, {1, 16, 2, 50}}},
		"a day too late":          {road(carrier(0, 1, 10, 30, 6), carrier(1, 2, 15, 30, 5)), []step{{0, 10, 2, 50}}},
		"later, but faster":       {road(carrier(0, 1, 10, 30, 20), carrier(0, 1, 15, 30, 3)), []step{{0, 10, 1, 18}, {0, 16, 1, 48}}},
		"around":                  {road(carrier(0, 1, 0, 1, 30), carrier(0, 2, 0, 1, 4), carrier(2, 3, 0, 1, 4), carrier(3, 1, 0, 1, 4)), []step{{0, 10, 1, 22}, {2, 10, 1, 18}, {2, 10, 0, 0}}},
		"straight":                {road(carrier(0, 1, 0, 1, 11), carrier(0, 2, 0, 1, 4), carrier(2, 3, 0, 1, 4), carrier(3, 1, 0, 1, 4)), []step{{0, 10, 1, 21}}},
		"in a circle":             {road(carrier(0, 1, 0, 2, 1), carrier(1, 2, 0, 2, 1), carrier(2, 0, 0, 2, 1)), []step{{0, 2, 0, 2}, {1, 2, 0, 5}, {2, 2, 1, 5}, {0, 1, 2, 5}}},
		"of all places":           {road(chain...), []step{{0, 1, 5, 5}, {0, 1, 2, 7}, {0, 1, 7, 10}, {0, 1, 1, 27}, {0, 1, 6, 28}, {0, 1, 4, 60}, {0, 1, 3, 72}}},
		"of all places, reversed": {road(backwards...), []step{{0, 1, 5, 5}, {0, 1, 2, 7}, {0, 1, 7, 10}, {0, 1, 1, 27}, {0, 1, 6, 28}, {0, 1, 4, 60}, {0, 1, 3, 72}}},
	} {
		for _, s := range c.steps {
			expectWay(t, name, c.p, s.from, s.day, s.to, s.want)
		}
	}
	if got, e := strays.Way(road(), 5, 0, 5); got != 0 || e != api.OK {
		t.Errorf("Way at home on the day 0 = %d, %d", got, e)
	}
	if got, e := strays.Way(road(carrier(0, 1, 0, 1, 1)), 0, 0, 1); got != 1 || e != api.OK {
		t.Errorf("Way on the day 0 = %d, %d", got, e)
	}
	far := road(one)
	far.Homes = []api.Abode{home(99, 1), home(0, 0)}
	expectWay(t, "members, not places", far, 0, 100, 99, 103)
	expectWay(t, "members, not places", far, 1, 100, 0, 0)
	// there is a way, though there is no truth, and though there are too many
	expectWay(t, "no truth", impossible(), 0, 7, 3, 10)
	for name, p := range crowded() {
		expectWay(t, name, p, 0, 7, 3, 10)
	}
}

// TestDue: P13.8.
func TestDue(t *testing.T) {
	b := example()
	expectDue(t, "one owner", b, 1, span(8, 8), api.OK)
	expectDue(t, "at home", with(find(1, 7, "0102", 0, 1)), 1, span(7, 7), api.OK)
	expectDue(t, "E", fewer(), 3, span(8, 11), api.OK)
	dead := func(carriers []api.Carrier, homes ...api.Abode) api.Pound {
		return changed(func(p *api.Pound) { p.Carriers, p.Homes = carriers, homes })
	}
	expectDue(t, "no home of one", dead(b.Carriers, home(2, 1), home(3, 2)), 2, api.Span{}, api.ErrArg)
	expectDue(t, "no home of the other", dead(b.Carriers, home(4, 1), home(3, 2)), 2, api.Span{}, api.ErrArg)
	expectDue(t, "no homes", dead(b.Carriers), 2, api.Span{}, api.ErrArg)
	expectDue(t, "no home of another", dead(b.Carriers, home(4, 3), home(2, 1)), 2, span(8, 11), api.OK)
	expectDue(t, "all at one place", dead(nil, home(4, 1), home(2, 1)), 2, span(8, 8), api.OK)
	expectDue(t, "no way to one", dead(nil, home(4, 3), home(2, 1)), 2, api.Span{}, api.ErrNone)
	expectDue(t, "no way to the other", dead(nil, home(4, 1), home(2, 3)), 2, api.Span{}, api.ErrNone)
	expectDue(t, "no way to any", dead(nil, home(4, 3), home(2, 3)), 2, api.Span{}, api.ErrNone)
	expectDue(t, "no way, and no home", dead(nil, home(2, 3)), 2, api.Span{}, api.ErrArg)
	expectDue(t, "no home, and no way", dead(nil, home(4, 3)), 2, api.Span{}, api.ErrArg)
	expectDue(t, "the later one first", dead(b.Carriers, home(4, 1), home(2, 3)), 2, span(8, 11), api.OK)
	late := changed(func(p *api.Pound) { p.Finds = []api.Find{find(1, 9999, "0100", 0, 2)} })
	expectDue(t, "the last day", late, 1, span(9999, 9999), api.OK)
	late.Finds[0].Place = 1
	expectDue(t, "too late", late, 1, api.Span{}, api.ErrNone)
	expectDue(t, "no truth", impossible(), 1, api.Span{}, api.ErrNone)
}
