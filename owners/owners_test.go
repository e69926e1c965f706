package owners_test

import (
	"math"
	"reflect"
	"slices"
	"strconv"
	"testing"

	"squeaker/api"
	"squeaker/owners"
)

func deed(id, day, ring, from, to int) api.Deed {
	return api.Deed{Id: id, Day: day, Ring: ring, From: from, To: to}
}

func bird(ring, sex, year int) api.Bird {
	return api.Bird{Ring: ring, Sex: sex, Born: api.Span{Low: year, High: year}}
}

// example is the stud S of the chapter.
func example() api.Stud {
	return api.Stud{
		Flock:  api.Flock{Birds: []api.Bird{bird(100, api.Cock, 1), bird(102, api.Hen, 1), bird(102, api.Cock, 1)}},
		Firsts: []int{1, 1, 2},
		Deeds:  []api.Deed{deed(1, 5, 100, 1, 3), deed(2, 6, 102, 1, 2), deed(3, 8, 102, 2, 4), deed(4, 8, 100, 1, 5), deed(5, 9, 102, 4, 3)},
	}
}

// changed returns the example with something changed.
func changed(change func(s *api.Stud)) api.Stud {
	s := example()
	change(&s)
	return s
}

// recalled is the stud R of the chapter.
func recalled() api.Stud { return changed(func(s *api.Stud) { s.Voided = []int{2} }) }

// with returns the example with other deeds.
func with(deeds ...api.Deed) api.Stud { return changed(func(s *api.Stud) { s.Deeds = deeds }) }

// alike has birds with the ring 7, which some members own at first.
func alike(firsts ...int) api.Stud {
	return api.Stud{Flock: api.Flock{Birds: slices.Repeat([]api.Bird{bird(7, api.Hen, 1)}, len(firsts))}, Firsts: firsts}
}

// passing returns deeds of the days from 1 on, with the same numbers as Ids, each of which passes a bird with the
// ring 7 from a member to another one.
func passing(members ...[2]int) []api.Deed {
	var deeds []api.Deed
	for i, m := range members {
		deeds = append(deeds, deed(i+1, i+1, 7, m[0], m[1]))
	}
	return deeds
}

// full has MaxStates truths after its last deed: each deed doubles them, as it gives the next owner a second bird.
func full() api.Stud {
	s := alike(0, 0, 1, 2, 3, 4, 5, 6, 7)
	s.Deeds = passing([2]int{0, 1}, [2]int{1, 2}, [2]int{2, 3}, [2]int{3, 4}, [2]int{4, 5}, [2]int{5, 6}, [2]int{6, 7}, [2]int{7, 8})
	return s
}

// overfull has one truth more than MaxStates after its last deed, and fewer before.
func overfull() api.Stud {
	s := alike(0, 2, 1, 2, 3, 3, 1, 2, 2, 2)
	s.Deeds = passing([2]int{3, 2}, [2]int{3, 0}, [2]int{1, 2}, [2]int{2, 3}, [2]int{2, 1}, [2]int{0, 2})
	return s
}

// swollen has too many truths after its fourth deed only, and 210 of them after the fifth one.
func swollen() api.Stud {
	s := alike(make([]int, api.MaxBirds)...)
	s.Deeds = passing([2]int{0, 1}, [2]int{0, 1}, [2]int{0, 1}, [2]int{0, 2}, [2]int{2, 1})
	return s
}

// many returns deeds with the Ids from first on.
func many(first, n int) []api.Deed {
	var deeds []api.Deed
	for i := range n {
		deeds = append(deeds, deed(first+i, 3, 5000, 1, 2))
	}
	return deeds
}

// numbers returns n numbers from first on.
func numbers(first, n int) []int {
	var out []int
	for i := range n {
		out = append(out, first+i)
	}
	return out
}

// tooFarFrom returns numbers that are not from 0 to a last one.
func tooFarFrom(last int) []int { return []int{-1, last + 1, math.MinInt, math.MaxInt} }

// invalidDeeds returns deeds each of which breaks one rule, by what is broken.
func invalidDeeds() map[string]api.Deed {
	deeds := map[string]api.Deed{}
	for name, c := range map[string]struct {
		last int
		set  func(d *api.Deed, n int)
	}{
		"Id":   {api.MaxMember, func(d *api.Deed, n int) { d.Id = n }},
		"Day":  {api.MaxDay, func(d *api.Deed, n int) { d.Day = n }},
		"Ring": {api.MaxRing, func(d *api.Deed, n int) { d.Ring = n }},
		"From": {api.MaxMember, func(d *api.Deed, n int) { d.From = n }},
		"To":   {api.MaxMember, func(d *api.Deed, n int) { d.To = n }},
	} {
		for _, n := range tooFarFrom(c.last) {
			d := deed(9, 9, 102, 1, 2)
			c.set(&d, n)
			deeds[name+" "+strconv.Itoa(n)] = d
		}
	}
	return deeds
}

// invalid returns studs each of which breaks one rule, by what is broken.
func invalid() map[string]api.Stud {
	studs := map[string]api.Stud{
		"a ring that is none":    changed(func(s *api.Stud) { s.Flock.Birds[1].Ring = api.MaxRing + 1 }),
		"a sex that is none":     changed(func(s *api.Stud) { s.Flock.Birds[2].Sex = 0 }),
		"years that end first":   changed(func(s *api.Stud) { s.Flock.Birds[0].Born.Low = 2 }),
		"a father that is a hen": changed(func(s *api.Stud) { s.Flock.Birds[0].Sires = []int{1} }),
		"a bird too many":        alike(make([]int, api.MaxBirds+1)...),
		"no first owners":        changed(func(s *api.Stud) { s.Firsts = nil }),
		"a first owner too few":  changed(func(s *api.Stud) { s.Firsts = s.Firsts[:2] }),
		"a first owner too many": changed(func(s *api.Stud) { s.Firsts = append(s.Firsts, 1) }),
		"a first owner alone":    {Firsts: []int{0}},
		"a deed too many":        changed(func(s *api.Stud) { s.Deeds = many(0, api.MaxDeeds+1) }),
		"a deed too often":       changed(func(s *api.Stud) { s.Deeds = slices.Repeat(s.Deeds[:1], api.MaxDeeds+1) }),
		"a recall too many":      changed(func(s *api.Stud) { s.Voided = numbers(0, api.MaxDeeds+1) }),
		"a recall too often":     changed(func(s *api.Stud) { s.Voided = slices.Repeat([]int{7}, api.MaxDeeds+1) }),
	}
	for _, n := range tooFarFrom(api.MaxMember) {
		name := strconv.Itoa(n)
		for i := range 3 {
			studs["the first owner "+name+" of "+strconv.Itoa(i)] = changed(func(s *api.Stud) { s.Firsts[i] = n })
		}
		studs["the recall "+name] = changed(func(s *api.Stud) { s.Voided = []int{n} })
		studs["the last recall "+name] = changed(func(s *api.Stud) { s.Voided = []int{1, 2, n} })
	}
	for name, d := range invalidDeeds() {
		studs[name+", first"] = changed(func(s *api.Stud) { s.Deeds[0] = d })
		studs[name+", last"] = changed(func(s *api.Stud) { s.Deeds = append(s.Deeds, d) })
		studs[name+", recalled"] = changed(func(s *api.Stud) { s.Deeds, s.Voided = append(s.Deeds, d), []int{9} })
	}
	return studs
}

// clashing returns valid studs with deeds that clash, by what is not equal.
func clashing() map[string]api.Stud {
	studs := map[string]api.Stud{}
	for name, d := range map[string]api.Deed{
		"Day": deed(1, 4, 100, 1, 3), "Ring": deed(1, 5, 102, 1, 3), "From": deed(1, 5, 100, 2, 3), "To": deed(1, 5, 100, 1, 2),
	} {
		studs[name] = changed(func(s *api.Stud) { s.Deeds = append(s.Deeds, d) })
		studs[name+", first"] = changed(func(s *api.Stud) { s.Deeds = slices.Insert(s.Deeds, 0, d) })
		studs[name+", recalled"] = changed(func(s *api.Stud) { s.Deeds, s.Voided = append(s.Deeds, d), []int{1} })
		studs[name+", beside equal ones"] = with(example().Deeds[0], example().Deeds[0], d, d)
	}
	return studs
}

// crowded returns studs with too many truths.
func crowded() map[string]api.Stud {
	late := full()
	late.Flock.Birds, late.Firsts = append(late.Flock.Birds, late.Flock.Birds[0]), append(late.Firsts, 8)
	late.Deeds = append(late.Deeds, deed(50, api.MaxDay, 7, 8, 9))
	return map[string]api.Stud{"one more": overfull(), "for a while": swollen(), "on the last day": late}
}

// An outcome is what a function returned, without its error, and the error.
type outcome struct {
	results []any
	e       api.Errno
}

// A question is all that the functions ask beside the stud.
type question struct{ day, bird, member, ring int }

// ask calls each function of a stud.
func ask(s api.Stud, q question) map[string]outcome {
	out := map[string]outcome{"Check": {nil, owners.Check(s)}}
	put := func(name string, e api.Errno, results ...any) {
		for i := range results {
			results[i] = tidy(results[i])
		}
		out[name] = outcome{results, e}
	}
	merged, e := owners.Merge(s, nil, nil)
	put("Merge", e, merged)
	all, e := owners.Owners(s, q.day, q.bird)
	put("Owners", e, all)
	one, e := owners.Owner(s, q.day, q.bird)
	put("Owner", e, one)
	sure, may, e := owners.Birds(s, q.day, q.member)
	put("Birds", e, sure, may)
	all, e = owners.Ring(s, q.day, q.ring)
	put("Ring", e, all)
	sure, may, e = owners.Idle(s)
	put("Idle", e, sure, may)
	n, e := owners.Truths(s, q.day)
	put("Truths", e, n)
	return out
}

// tidy returns a result, but nil for an empty slice, which is the same.
func tidy(result any) any {
	v := reflect.ValueOf(result)
	if v.Kind() == reflect.Slice && v.Len() == 0 {
		return reflect.Zero(v.Type()).Interface()
	}
	return result
}

// expectErrors checks the errors of all functions: others, but for those that are named; and the zero values.
func expectErrors(t *testing.T, name string, got map[string]outcome, others api.Errno, named map[string]api.Errno) {
	t.Helper()
	for function, o := range got {
		want, ok := named[function]
		if !ok {
			want = others
		}
		if o.e != want {
			t.Errorf("%s: %s has the error %d, not %d", name, function, o.e, want)
		}
		for _, r := range o.results {
			if o.e != api.OK && !reflect.ValueOf(r).IsZero() {
				t.Errorf("%s: %s returns %v with an error", name, function, r)
			}
		}
	}
}

// wrongQuestions returns questions to studs of three birds, each of which has one thing that is not as described, and
// the functions that ask for it.
func wrongQuestions() (questions []question, asking [][]string) {
	add := func(q question, functions ...string) {
		questions = append(questions, q)
		asking = append(asking, functions)
	}
	for _, n := range tooFarFrom(api.MaxDay) {
		add(question{day: n}, "Owners", "Owner", "Birds", "Ring", "Truths")
	}
	for _, n := range append([]int{api.MaxBirds}, tooFarFrom(2)...) {
		add(question{bird: n}, "Owners", "Owner")
	}
	for _, n := range tooFarFrom(api.MaxMember) {
		add(question{member: n}, "Birds")
	}
	for _, n := range tooFarFrom(api.MaxRing) {
		add(question{ring: n}, "Ring")
	}
	return questions, asking
}

// TestErrors: P1, with the errors in their order and zero values beside them.
func TestErrors(t *testing.T) {
	questions, asking := wrongQuestions()
	all := append(questions, question{}, question{day: 8, bird: 1, member: 4, ring: 102})
	free := map[string]api.Errno{"Check": api.OK, "Merge": api.OK}
	for _, q := range all {
		for name, s := range invalid() {
			expectErrors(t, name, ask(s, q), api.ErrStud, nil)
		}
		for name, s := range clashing() {
			expectErrors(t, name, ask(s, q), api.ErrDeed, nil)
		}
		for name, s := range crowded() {
			expectErrors(t, name, ask(s, q), api.ErrMany, free)
		}
	}
	for i, q := range questions {
		wrong := map[string]api.Errno{}
		for _, function := range asking[i] {
			wrong[function] = api.ErrArg
		}
		expectErrors(t, "example", ask(example(), q), api.OK, wrong)
	}
	expectErrors(t, "example", ask(example(), question{}), api.OK, nil)
	expectErrors(t, "no owner", ask(example(), question{day: 8, bird: 1}), api.OK, map[string]api.Errno{"Owner": api.ErrNone})
	noBird := map[string]api.Errno{"Owners": api.ErrArg, "Owner": api.ErrArg}
	expectErrors(t, "no bird", ask(api.Stud{}, question{}), api.OK, noBird)
}

// TestFirstError: P1, of several errors the first one is returned.
func TestFirstError(t *testing.T) {
	for name, s := range invalid() {
		if len(s.Deeds) == 0 || len(s.Deeds) > api.MaxDeeds-2 {
			continue
		}
		s.Deeds = slices.Concat(s.Deeds, []api.Deed{deed(30, 1, 1, 1, 1), deed(30, 1, 1, 1, 2)})
		expectErrors(t, name+" that clashes", ask(s, question{day: -1}), api.ErrStud, nil)
	}
	for name, s := range crowded() {
		s.Deeds = append(s.Deeds, deed(1, 1, 7, 99, 99))
		expectErrors(t, name+" that clashes", ask(s, question{day: -1}), api.ErrDeed, nil)
		s.Firsts = slices.Concat(s.Firsts[1:], []int{-1})
		expectErrors(t, name+" that is not valid", ask(s, question{day: -1}), api.ErrStud, nil)
	}
	unsure := map[string]api.Errno{"Owners": api.ErrArg, "Owner": api.ErrArg, "Birds": api.ErrArg, "Ring": api.ErrArg, "Truths": api.ErrArg}
	expectErrors(t, "no owner and no day", ask(example(), question{day: api.MaxDay + 1, bird: 1}), api.OK, unsure)
}

// TestMany: the limit of truths, which is the same for a question about an early day.
func TestMany(t *testing.T) {
	for name, c := range map[string]struct {
		s    api.Stud
		many int
	}{
		"as many as may be": {full(), api.MaxStates},
		"most ways, but few owners": {func() api.Stud {
			s := alike(make([]int, api.MaxBirds)...)
			s.Deeds = passing(slices.Repeat([][2]int{{0, 1}}, 5)...)
			return s
		}(), 252},
		"and one in the end": {func() api.Stud {
			s := alike(make([]int, api.MaxBirds)...)
			s.Deeds = passing(slices.Repeat([][2]int{{0, 1}}, api.MaxDeeds)...)
			return s
		}(), 1},
		"one fewer deed":    {func() api.Stud { s := overfull(); s.Voided = []int{6}; return s }(), 156},
		"the deed recalled": {func() api.Stud { s := swollen(); s.Voided = []int{4}; return s }(), 120},
	} {
		if n, e := owners.Truths(c.s, api.MaxDay); n != c.many || e != api.OK {
			t.Errorf("%s: Truths = %d, %d", name, n, e)
		}
		expectErrors(t, name, ask(c.s, question{}), api.OK, nil)
	}
	s := overfull()
	all := ways(s)
	if before, last := len(after(s, all, 5)), len(after(s, all, 6)); before != 156 || last != api.MaxStates+1 {
		t.Errorf("there are %d truths, and then %d", before, last)
	}
}

// TestCheck: P3.1.
func TestCheck(t *testing.T) {
	old := api.Bird{Ring: 1, Sex: api.Cock, Born: api.Span{Low: 9, High: 9}}
	young := api.Bird{Ring: 1, Sex: api.Cock, Born: api.Span{Low: 3, High: 3}, Sires: []int{0}}
	for name, s := range map[string]api.Stud{
		"nothing":              {},
		"empty lists":          {Flock: api.Flock{Birds: []api.Bird{}}, Firsts: []int{}, Deeds: []api.Deed{}, Voided: []int{}},
		"the example":          example(),
		"a recall":             recalled(),
		"no deeds":             with(),
		"all birds":            alike(make([]int, api.MaxBirds)...),
		"the limits of owners": changed(func(s *api.Stud) { s.Firsts = []int{0, 99, 0} }),
		"the least numbers":    with(deed(0, 0, 0, 0, 0)),
		"the last numbers":     with(deed(99, 9999, 9999, 99, 99)),
		"a ring of no bird":    with(deed(1, 1, 101, 1, 2)),
		"all deeds":            with(many(0, api.MaxDeeds)...),
		"a deed often":         with(slices.Repeat(many(1, 1), api.MaxDeeds)...),
		"all recalls":          changed(func(s *api.Stud) { s.Voided = numbers(80, api.MaxDeeds) }),
		"a recall often":       changed(func(s *api.Stud) { s.Voided = slices.Repeat([]int{0}, api.MaxDeeds) }),
		"deeds but for the Id": with(deed(1, 5, 100, 1, 3), deed(2, 5, 100, 1, 3)),
		"equal deeds":          with(deed(1, 5, 100, 1, 3), deed(2, 6, 102, 1, 2), deed(1, 5, 100, 1, 3)),
		"no pedigree":          {Flock: api.Flock{Birds: []api.Bird{old, young}}, Firsts: []int{1, 1}},
	} {
		if e := owners.Check(s); e != api.OK {
			t.Errorf("%s: Check = %d", name, e)
		}
	}
	for name, s := range invalid() {
		if e := owners.Check(s); e != api.ErrStud {
			t.Errorf("%s: Check = %d", name, e)
		}
	}
	for name, s := range clashing() {
		if e := owners.Check(s); e != api.ErrDeed {
			t.Errorf("%s: Check = %d", name, e)
		}
	}
	for name, s := range crowded() {
		if e := owners.Check(s); e != api.OK {
			t.Errorf("%s: Check = %d", name, e)
		}
	}
}

// TestPedigrees: of the flock only the rings matter, also if it has no truth, or too many pedigrees.
func TestPedigrees(t *testing.T) {
	s := alike(make([]int, api.MaxBirds)...)
	for i := range s.Flock.Birds[4:] {
		s.Flock.Birds[4+i].Dams = []int{0, 1, 2, 3}
	}
	s.Deeds = passing([2]int{0, 1})
	if all, e := owners.Owners(s, 1, 9); !slices.Equal(all, []int{0, 1}) || e != api.OK {
		t.Errorf("Owners = %v, %d", all, e)
	}
	s.Flock.Birds = slices.Repeat([]api.Bird{{Ring: 7, Sex: api.Hen, Dams: nil}}, api.MaxBirds)
	for i := range s.Flock.Birds {
		s.Flock.Birds[i].Dams = []int{(i + 1) % api.MaxBirds}
	}
	if n, e := owners.Truths(s, 1); n != api.MaxBirds || e != api.OK {
		t.Errorf("Truths = %d, %d", n, e)
	}
}

// TestOwners: P3.3 and P3.4.
func TestOwners(t *testing.T) {
	chain := alike(1)
	chain.Deeds = []api.Deed{deed(3, 4, 7, 2, 3), deed(9, 2, 7, 1, 2), deed(1, 4, 7, 3, 4), deed(2, 4, 7, 2, 5)}
	pair := alike(1, 1)
	pair.Deeds = []api.Deed{deed(5, 1, 7, 1, 2), deed(5, 1, 7, 1, 2)}
	twice := alike(1, 1)
	twice.Deeds = []api.Deed{deed(5, 1, 7, 1, 2), deed(6, 1, 7, 1, 2)}
	same := alike(1, 1)
	same.Deeds = []api.Deed{deed(5, 1, 7, 1, 1)}
	ends := alike(0)
	ends.Deeds = []api.Deed{deed(0, 0, 7, 0, 99), deed(99, 9999, 7, 99, 98)}
	for i, c := range []struct {
		s         api.Stud
		day, bird int
		want      []int
	}{
		{example(), 8, 1, []int{2, 4}}, {example(), 9, 2, []int{2, 3}},
		{example(), 7, 1, []int{2}}, {recalled(), 8, 2, []int{4}},
		{example(), 0, 0, []int{1}}, {example(), 4, 0, []int{1}}, {example(), 5, 0, []int{3}}, {example(), api.MaxDay, 0, []int{3}},
		{example(), 5, 1, []int{1}}, {example(), 6, 1, []int{2}}, {example(), 9, 1, []int{2, 3}},
		{recalled(), 9, 1, []int{1}}, {recalled(), 9, 2, []int{3}}, {recalled(), 7, 2, []int{2}},
		// the order of days, and of Ids on a day: 2 to 5, and then there is nothing left for 3
		{chain, 1, 0, []int{1}}, {chain, 3, 0, []int{2}}, {chain, 4, 0, []int{5}},
		// a message that comes twice passes one bird, two messages pass two
		{pair, 0, 1, []int{1}}, {pair, 1, 0, []int{1, 2}}, {pair, 1, 1, []int{1, 2}}, {twice, 1, 0, []int{2}}, {twice, 1, 1, []int{2}},
		{same, 1, 0, []int{1}},
		{ends, 0, 0, []int{99}}, {ends, 9998, 0, []int{99}}, {ends, 9999, 0, []int{98}},
		{full(), 8, 8, []int{7, 8}}, {full(), 8, 0, []int{0, 1, 2, 3, 4, 5, 6, 7, 8}},
	} {
		if all, e := owners.Owners(c.s, c.day, c.bird); !slices.Equal(all, c.want) || e != api.OK {
			t.Errorf("%d: Owners = %v, %d, not %v", i, all, e, c.want)
		}
		one, e := owners.Owner(c.s, c.day, c.bird)
		if len(c.want) == 1 && (one != c.want[0] || e != api.OK) || len(c.want) > 1 && (one != 0 || e != api.ErrNone) {
			t.Errorf("%d: Owner = %d, %d of %v", i, one, e, c.want)
		}
	}
}

// TestBirds: P3.5.
func TestBirds(t *testing.T) {
	for i, c := range []struct {
		s           api.Stud
		day, member int
		sure, may   []int
	}{
		{example(), 8, 4, nil, []int{1, 2}}, {example(), 8, 3, []int{0}, []int{0}},
		{example(), 0, 1, []int{0, 1}, []int{0, 1}}, {example(), 0, 2, []int{2}, []int{2}}, {example(), 0, 0, nil, nil},
		{example(), 7, 2, []int{1, 2}, []int{1, 2}}, {example(), 9, 3, []int{0}, []int{0, 1, 2}}, {example(), 9, 1, nil, nil},
		{example(), 9, 5, nil, nil}, {example(), 9, api.MaxMember, nil, nil},
		{recalled(), 9, 3, []int{0, 2}, []int{0, 2}}, {recalled(), 9, 1, []int{1}, []int{1}},
		{full(), 8, 0, nil, []int{0, 1}}, {full(), 8, 8, nil, numbers(0, 9)},
		{api.Stud{}, 3, 0, nil, nil}, {alike(0), 3, 0, []int{0}, []int{0}},
	} {
		sure, may, e := owners.Birds(c.s, c.day, c.member)
		if !slices.Equal(sure, c.sure) || !slices.Equal(may, c.may) || e != api.OK {
			t.Errorf("%d: Birds = %v, %v, %d", i, sure, may, e)
		}
	}
}

// TestRing: P3.6.
func TestRing(t *testing.T) {
	ends := alike(99, 0)
	ends.Flock.Birds[0].Ring, ends.Flock.Birds[1].Ring = api.MaxRing, 0
	for i, c := range []struct {
		s         api.Stud
		day, ring int
		want      []int
	}{
		{example(), 8, 102, []int{2, 4}}, {example(), 0, 102, []int{1, 2}}, {example(), 7, 102, []int{2}},
		{example(), 9, 102, []int{2, 3}}, {example(), 9, 100, []int{3}}, {example(), 4, 100, []int{1}},
		{example(), 9, 101, nil}, {example(), 9, 0, nil}, {with(deed(1, 1, 200, 1, 9)), 9, 200, nil},
		{recalled(), 9, 102, []int{1, 3}}, {api.Stud{}, 0, 0, nil},
		{ends, 0, api.MaxRing, []int{99}}, {ends, 0, 0, []int{0}},
		{full(), 8, 7, numbers(0, 9)},
	} {
		if got, e := owners.Ring(c.s, c.day, c.ring); !slices.Equal(got, c.want) || e != api.OK {
			t.Errorf("%d: Ring = %v, %d, not %v", i, got, e, c.want)
		}
	}
}

// TestIdle: P3.7.
func TestIdle(t *testing.T) {
	for i, c := range []struct {
		s         api.Stud
		sure, may []int
	}{
		{example(), []int{4}, []int{4}}, {recalled(), []int{4}, []int{4}}, {with(), nil, nil}, {api.Stud{}, nil, nil},
		{changed(func(s *api.Stud) { s.Voided = []int{4} }), nil, nil},
		{changed(func(s *api.Stud) { s.Voided = []int{1} }), nil, nil},
		{changed(func(s *api.Stud) { s.Deeds = append(s.Deeds, s.Deeds[3], s.Deeds[3]) }), []int{4}, []int{4}},
		// the recall of the deed 3 leaves no bird for the deed 5
		{changed(func(s *api.Stud) { s.Voided = []int{3} }), []int{4, 5}, []int{4, 5}},
		// two birds have the ring, whichever of them passes first
		{api.Stud{Flock: example().Flock, Firsts: []int{1, 1, 1}, Deeds: []api.Deed{deed(1, 1, 102, 1, 2), deed(2, 2, 102, 1, 3), deed(3, 3, 102, 1, 4)}}, []int{3}, []int{3}},
		{with(deed(8, 1, 102, 2, 1), deed(7, 2, 102, 1, 2), deed(6, 3, 102, 1, 2), deed(5, 3, 102, 1, 2)), []int{6}, []int{6}},
		// from and to the same member
		{with(deed(2, 1, 100, 1, 1), deed(1, 1, 100, 2, 2)), []int{1}, []int{1}},
		// a ring that no bird has, and no birds at all
		{with(deed(7, 1, 101, 1, 2), deed(3, 2, 103, 1, 1)), []int{3, 7}, []int{3, 7}},
		{api.Stud{Deeds: []api.Deed{deed(99, 0, 0, 0, 0), deed(0, 9999, 0, 0, 0)}}, []int{0, 99}, []int{0, 99}},
	} {
		sure, may, e := owners.Idle(c.s)
		if !slices.Equal(sure, c.sure) || !slices.Equal(may, c.may) || e != api.OK {
			t.Errorf("%d: Idle = %v, %v, %d", i, sure, may, e)
		}
	}
}

// TestTruths: P3.8.
func TestTruths(t *testing.T) {
	for i, c := range []struct {
		s         api.Stud
		day, many int
	}{
		{example(), 7, 1}, {example(), 8, 2}, {recalled(), 9, 1}, {example(), 0, 1}, {example(), 9, 2}, {example(), api.MaxDay, 2},
		{api.Stud{}, 0, 1}, {api.Stud{Deeds: many(1, 3)}, 3, 1}, {with(), 5, 1},
		{full(), 0, 1}, {full(), 1, 2}, {full(), 7, 128}, {full(), 8, 256}, {full(), api.MaxDay, 256},
		// both birds pass in the end, whichever is the first one
		{changed(func(s *api.Stud) { s.Deeds[4] = deed(5, 9, 102, 2, 4) }), 9, 1},
		// nothing is passed to oneself
		{changed(func(s *api.Stud) { s.Deeds[2].To = 2 }), 8, 1},
	} {
		if n, e := owners.Truths(c.s, c.day); n != c.many || e != api.OK {
			t.Errorf("%d: Truths = %d, %d, not %d", i, n, e, c.many)
		}
	}
}
