package baskets_test

import (
	"math"
	"reflect"
	"slices"
	"strconv"
	"strings"
	"testing"

	"squeaker/api"
	"squeaker/baskets"
)

func span(low, high int) api.Span { return api.Span{Low: low, High: high} }

func markIn(id, at, basket, bird, first, second int) api.Act {
	return api.Act{Id: id, At: at, Kind: api.MarkIn, Basket: basket, Bird: bird, First: first, Second: second}
}

func takeOut(id, at, basket, bird int) api.Act {
	return api.Act{Id: id, At: at, Kind: api.TakeOut, Basket: basket, Bird: bird}
}

func sealUp(id, at, basket, seal int) api.Act {
	return api.Act{Id: id, At: at, Kind: api.SealUp, Basket: basket, Seal: seal}
}

func lookAt(id, at, basket, seal int) api.Act {
	return api.Act{Id: id, At: at, Kind: api.LookAt, Basket: basket, Seal: seal}
}

func unseal(id, at, basket, seal int) api.Act {
	return api.Act{Id: id, At: at, Kind: api.Unseal, Basket: basket, Seal: seal}
}

func duty(member, basket, from, to int) api.Duty {
	return api.Duty{Member: member, Basket: basket, From: from, To: to}
}

// example is the convoy C of the chapter.
func example() api.Convoy {
	return api.Convoy{
		Baskets: 2, Birds: 3, End: 100,
		Acts: []api.Act{
			markIn(1, 5, 0, 0, 7, 8), markIn(2, 6, 0, 1, 7, 9), markIn(3, 7, 1, 2, 8, 9),
			sealUp(4, 10, 0, 501), sealUp(5, 10, 1, 502), lookAt(6, 40, 0, 501), lookAt(7, 60, 0, 0),
			unseal(8, 80, 0, 0), unseal(9, 80, 1, 502), takeOut(10, 81, 0, 0),
		},
		Duties: []api.Duty{duty(3, 0, 0, 30), duty(4, 0, 31, 50), duty(4, 1, 0, 99)},
	}
}

// doubled is the convoy D of the chapter.
func doubled() api.Convoy {
	return changed(func(c *api.Convoy) { c.Acts[4].Seal, c.Acts[8].Seal = 501, 501 })
}

// changed returns the example with something changed.
func changed(change func(c *api.Convoy)) api.Convoy {
	c := example()
	change(&c)
	return c
}

// with returns the example with more acts.
func with(more ...api.Act) api.Convoy {
	return changed(func(c *api.Convoy) { c.Acts = append(c.Acts, more...) })
}

// of returns a convoy of two baskets and three birds with some acts, which ends at 100.
func of(acts ...api.Act) api.Convoy { return api.Convoy{Baskets: 2, Birds: 3, End: 100, Acts: acts} }

// guarded returns a convoy with some duties alone.
func guarded(c api.Convoy, duties ...api.Duty) api.Convoy {
	c.Duties = duties
	return c
}

// largest is as large as a convoy can be.
func largest() api.Convoy {
	c := api.Convoy{Baskets: api.MaxBaskets, Birds: api.MaxRaced, End: api.MaxMinute}
	for i := range api.MaxRaced {
		c.Acts = append(c.Acts, markIn(i, 0, i%6, i, api.MaxMember, 0))
	}
	for i := range api.MaxBaskets {
		c.Acts = append(c.Acts, sealUp(20+i, 0, i, api.MaxSeal), lookAt(30+i, 1, i, api.MaxSeal),
			unseal(40+i, api.MaxMinute, i, 0), takeOut(94+i, api.MaxMinute, i, i))
	}
	c.Acts = append(c.Acts, c.Acts[:4]...)
	c.Duties = slices.Repeat([]api.Duty{duty(api.MaxMember, 5, 0, api.MaxMinute)}, api.MaxDuties)
	return c
}

// tooFarFrom returns numbers that are not within limits.
func tooFarFrom(low, high int) []int { return []int{low - 1, high + 1, math.MinInt, math.MaxInt} }

// A field is a number of a convoy, the limits of it, and how it is set.
type field struct {
	name      string
	low, high int
	set       func(c *api.Convoy, n int)
}

// fields returns all numbers of a convoy that have limits. The acts 2, 9, 4, 5 and 8 of the example are one of each kind.
func fields() []field {
	out := []field{
		{"Baskets", 1, api.MaxBaskets, func(c *api.Convoy, n int) { c.Baskets, c.Acts, c.Duties = n, nil, nil }},
		{"Birds", 0, api.MaxRaced, func(c *api.Convoy, n int) { c.Birds, c.Acts = n, nil }},
		{"End", 0, api.MaxMinute, func(c *api.Convoy, n int) { c.End, c.Acts = n, nil }},
		{"Member", 0, api.MaxMember, func(c *api.Convoy, n int) { c.Duties[1].Member = n }},
		{"Basket of a duty", 0, 1, func(c *api.Convoy, n int) { c.Duties[1].Basket = n }},
		{"From", 0, 50, func(c *api.Convoy, n int) { c.Duties[1].From = n }},
		{"To", 31, api.MaxMinute, func(c *api.Convoy, n int) { c.Duties[1].To = n }},
	}
	add := func(i int, name string, low, high int, set func(a *api.Act, n int)) {
		out = append(out, field{name + " of the act " + strconv.Itoa(i), low, high, func(c *api.Convoy, n int) { set(&c.Acts[i], n) }})
	}
	bird := func(a *api.Act, n int) { a.Bird = n }
	first := func(a *api.Act, n int) { a.First = n }
	second := func(a *api.Act, n int) { a.Second = n }
	seal := func(a *api.Act, n int) { a.Seal = n }
	for i := range example().Acts {
		add(i, "Id", 0, api.MaxMember, func(a *api.Act, n int) { a.Id = n })
		add(i, "At", 0, 100, func(a *api.Act, n int) { a.At = n })
		add(i, "Kind", 1, 5, func(a *api.Act, n int) { a.Kind = n })
		add(i, "Basket", 0, 1, func(a *api.Act, n int) { a.Basket = n })
	}
	for _, i := range []int{2, 9} {
		add(i, "Bird", 0, 2, bird)
		add(i, "Seal", 0, 0, seal)
	}
	add(2, "First", 0, api.MaxMember, first)
	add(2, "Second", 0, api.MaxMember, second)
	for _, i := range []int{9, 4, 5, 8} {
		add(i, "First", 0, 0, first)
		add(i, "Second", 0, 0, second)
	}
	for _, i := range []int{4, 5, 8} {
		add(i, "Bird", 0, 0, bird)
	}
	add(4, "Seal", 1, api.MaxSeal, seal)
	add(5, "Seal", 0, api.MaxSeal, seal)
	add(8, "Seal", 0, api.MaxSeal, seal)
	return out
}

// invalid returns convoys each of which breaks one rule, by what is broken.
func invalid() map[string]api.Convoy {
	out := map[string]api.Convoy{
		"no convoy":               {},
		"one member marks":        changed(func(c *api.Convoy) { c.Acts[2].First = 9 }),
		"one member, 0, marks":    changed(func(c *api.Convoy) { c.Acts[2].First, c.Acts[2].Second = 0, 0 }),
		"an act of no kind":       with(api.Act{Id: 11, At: 90}),
		"a duty that ends first":  changed(func(c *api.Convoy) { c.Duties[1].From = 51 }),
		"an act after the end":    changed(func(c *api.Convoy) { c.End = 80 }),
		"an act too many":         changed(func(c *api.Convoy) { c.Acts = slices.Repeat(c.Acts[:1], api.MaxActs+1) }),
		"acts too many":           changed(func(c *api.Convoy) { c.Acts = slices.Repeat(c.Acts, 9) }),
		"a duty too many":         changed(func(c *api.Convoy) { c.Duties = slices.Repeat(c.Duties[:1], api.MaxDuties+1) }),
		"a bird of no birds":      {Baskets: 1, Acts: []api.Act{markIn(0, 0, 0, 0, 1, 2)}},
		"a bird out of no birds":  {Baskets: 1, Acts: []api.Act{takeOut(0, 0, 0, 0)}},
		"a basket too few":        changed(func(c *api.Convoy) { c.Baskets, c.Duties = 1, nil }),
		"a basket without duties": changed(func(c *api.Convoy) { c.Baskets, c.Acts = 1, nil }),
		"a bird too few":          changed(func(c *api.Convoy) { c.Birds = 2 }),
	}
	for _, f := range fields() {
		for _, n := range tooFarFrom(f.low, f.high) {
			out[f.name+" "+strconv.Itoa(n)] = changed(func(c *api.Convoy) { f.set(c, n) })
		}
	}
	return out
}

// clashing returns valid convoys whose acts clash, but would be in their places.
func clashing() map[string]api.Convoy {
	out := map[string]api.Convoy{
		"another act":       with(unseal(10, 81, 1, 502)),
		"the Id 0":          of(markIn(0, 1, 0, 0, 1, 2), markIn(0, 1, 0, 1, 1, 2)),
		"the Id 99":         of(markIn(99, 1, 0, 0, 1, 2), takeOut(99, 2, 0, 0)),
		"far from another":  with(sealUp(1, 90, 1, 7)),
		"after equal ones":  with(example().Acts[0], lookAt(1, 70, 0, 0)),
		"of three, the one": of(sealUp(3, 1, 0, 7), lookAt(3, 2, 0, 7), lookAt(3, 2, 0, 7)),
	}
	late := lookAt(11, 50, 0, 501)
	for name, change := range map[string]func(a *api.Act){
		"At": func(a *api.Act) { a.At = 51 }, "Kind": func(a *api.Act) { *a = sealUp(11, 90, 0, 501) },
		"Basket": func(a *api.Act) { *a = lookAt(11, 50, 1, 502) }, "Seal": func(a *api.Act) { a.At, a.Seal = 70, 500 },
	} {
		other := late
		change(&other)
		out["by "+name] = with(late, other)
	}
	mark := markIn(11, 82, 0, 0, 1, 2)
	for name, other := range map[string]api.Act{
		"Bird": markIn(11, 82, 0, 1, 1, 2), "First": markIn(11, 82, 0, 0, 3, 2), "Second": markIn(11, 82, 0, 0, 1, 3), "team": markIn(11, 82, 0, 0, 2, 1),
	} {
		out["by "+name] = with(mark, other)
	}
	return out
}

// misplaced returns valid convoys in each of which just one act is out of place.
func misplaced() map[string]api.Convoy {
	return map[string]api.Convoy{
		"marked in again":                   of(markIn(1, 1, 0, 0, 1, 2), markIn(2, 2, 0, 0, 1, 2)),
		"marked into another one":           of(markIn(1, 1, 0, 0, 1, 2), markIn(2, 1, 1, 0, 1, 2)),
		"marked in though it is in the 1":   of(markIn(1, 1, 1, 2, 1, 2), markIn(2, 9, 0, 2, 1, 2)),
		"marked into a sealed basket":       of(sealUp(1, 1, 0, 9), markIn(2, 2, 0, 0, 1, 2)),
		"marked in at the sealing":          of(sealUp(1, 1, 0, 9), markIn(2, 1, 0, 0, 1, 2)),
		"marked into a broken basket":       of(sealUp(1, 1, 0, 9), lookAt(2, 5, 0, 0), markIn(3, 6, 0, 0, 1, 2)),
		"marked in before the opening":      of(sealUp(1, 1, 0, 9), markIn(2, 5, 0, 0, 1, 2), unseal(3, 5, 0, 9)),
		"taken out of no basket":            of(takeOut(1, 1, 0, 0)),
		"taken out of another one":          of(markIn(1, 1, 0, 0, 1, 2), takeOut(2, 2, 1, 0)),
		"taken out again":                   of(markIn(1, 1, 0, 0, 1, 2), takeOut(2, 2, 0, 0), takeOut(3, 3, 0, 0)),
		"taken out before it is in":         of(markIn(2, 1, 0, 0, 1, 2), takeOut(1, 1, 0, 0)),
		"taken out, though another one is":  of(markIn(1, 1, 0, 1, 1, 2), takeOut(2, 2, 0, 0)),
		"taken out of a sealed basket":      of(markIn(1, 1, 0, 0, 1, 2), sealUp(2, 2, 0, 9), takeOut(3, 3, 0, 0)),
		"taken out at the sealing":          of(markIn(1, 1, 0, 0, 1, 2), sealUp(2, 2, 0, 9), takeOut(3, 2, 0, 0)),
		"taken out before the opening":      of(markIn(1, 1, 0, 0, 1, 2), sealUp(2, 2, 0, 9), takeOut(3, 4, 0, 0), unseal(4, 4, 0, 9)),
		"sealed again":                      of(sealUp(1, 1, 0, 9), sealUp(2, 2, 0, 8)),
		"sealed again with the same seal":   of(sealUp(1, 1, 0, 9), sealUp(2, 2, 0, 9)),
		"sealed again when it is broken":    of(sealUp(1, 1, 0, 9), lookAt(2, 5, 0, 0), sealUp(3, 6, 0, 8)),
		"sealed before the opening":         of(sealUp(1, 1, 0, 9), sealUp(2, 5, 0, 8), unseal(3, 5, 0, 9)),
		"looked at, not sealed":             of(lookAt(1, 1, 0, 0)),
		"looked at, another one is sealed":  of(sealUp(1, 1, 1, 9), lookAt(2, 2, 0, 9)),
		"looked at before the sealing":      of(sealUp(2, 1, 0, 9), lookAt(1, 1, 0, 9)),
		"looked at after the opening":       of(sealUp(1, 1, 0, 9), unseal(2, 3, 0, 9), lookAt(3, 3, 0, 9)),
		"opened, not sealed":                of(unseal(1, 1, 0, 0)),
		"opened again":                      of(sealUp(1, 1, 0, 9), unseal(2, 3, 0, 9), unseal(3, 4, 0, 9)),
		"opened again when it was broken":   of(sealUp(1, 1, 0, 9), unseal(2, 3, 0, 0), unseal(3, 4, 0, 0)),
		"whole after it was broken":         of(sealUp(1, 1, 0, 9), lookAt(2, 3, 0, 0), lookAt(3, 9, 0, 9)),
		"whole, then broken, then whole":    of(sealUp(1, 1, 0, 9), lookAt(2, 2, 0, 9), lookAt(3, 4, 0, 8), lookAt(4, 9, 0, 9)),
		"whole in the minute it was broken": of(sealUp(1, 1, 0, 9), lookAt(2, 3, 0, 0), lookAt(3, 3, 0, 9)),
		"opened whole after it was broken":  of(sealUp(1, 1, 0, 9), lookAt(2, 3, 0, 0), unseal(3, 9, 0, 9)),
		"whole, a doubled number":           of(sealUp(1, 1, 0, 9), sealUp(2, 1, 1, 9), lookAt(3, 3, 0, 0), lookAt(4, 9, 0, 9)),
		"broken twice, then whole":          of(sealUp(1, 1, 0, 9), lookAt(2, 3, 0, 0), lookAt(3, 4, 0, 7), unseal(4, 9, 0, 9)),
		"broken at the sealing":             of(sealUp(1, 3, 0, 9), lookAt(2, 3, 0, 0)),
		"another number at the sealing":     of(sealUp(1, 3, 0, 9), lookAt(2, 3, 0, 10)),
		"opened broken at the sealing":      of(sealUp(1, 3, 0, 9), unseal(2, 3, 0, 0)),
		"broken as it was whole":            of(sealUp(1, 1, 0, 9), lookAt(2, 3, 0, 9), lookAt(3, 3, 0, 0)),
		"opened broken as it was whole":     of(sealUp(1, 1, 0, 9), lookAt(2, 2, 0, 9), lookAt(3, 3, 0, 9), unseal(4, 3, 0, 999)),
		"broken as it was whole, doubled":   of(sealUp(1, 1, 0, 9), sealUp(2, 1, 1, 9), lookAt(3, 3, 0, 9), lookAt(4, 3, 0, 0)),
		"broken at another sealing":         of(sealUp(1, 1, 0, 9), unseal(2, 3, 0, 0), sealUp(3, 3, 0, 8), lookAt(4, 3, 0, 9)),
		"the number of the seal before":     of(sealUp(1, 1, 0, 9), unseal(2, 3, 0, 9), sealUp(3, 3, 0, 8), unseal(4, 3, 0, 9)),
		"the first act of many":             with(takeOut(0, 0, 0, 0)),
		"the last act of many":              with(takeOut(99, 100, 0, 0)),
	}
}

// placed returns valid convoys whose acts are in their places, though they look like some that are not.
func placed() map[string]api.Convoy {
	return map[string]api.Convoy{
		"marked in, out, and in":           of(markIn(1, 1, 0, 0, 1, 2), takeOut(2, 1, 0, 0), markIn(3, 1, 1, 0, 1, 2), takeOut(4, 1, 1, 0), markIn(5, 1, 0, 0, 1, 2)),
		"marked in before the sealing":     of(markIn(1, 1, 0, 0, 1, 2), sealUp(2, 1, 0, 9)),
		"marked into another one":          of(sealUp(1, 1, 0, 9), markIn(2, 2, 1, 0, 1, 2)),
		"marked in after the opening":      of(sealUp(1, 1, 0, 9), unseal(2, 5, 0, 9), markIn(3, 5, 0, 0, 1, 2)),
		"taken out before the sealing":     of(markIn(1, 1, 0, 0, 1, 2), takeOut(2, 1, 0, 0), sealUp(3, 1, 0, 9)),
		"taken out of another one":         of(markIn(1, 1, 0, 0, 1, 2), sealUp(2, 1, 1, 9), takeOut(3, 2, 0, 0)),
		"taken out after the opening":      of(markIn(1, 1, 0, 0, 1, 2), sealUp(2, 2, 0, 9), unseal(3, 4, 0, 0), takeOut(4, 4, 0, 0)),
		"both sealed with one number":      of(sealUp(1, 1, 0, 9), sealUp(2, 1, 1, 9)),
		"sealed again after the opening":   of(sealUp(1, 1, 0, 9), unseal(2, 5, 0, 0), sealUp(3, 5, 0, 9)),
		"looked at the sealing":            of(sealUp(1, 1, 0, 9), lookAt(2, 1, 0, 9), lookAt(3, 1, 0, 9), unseal(4, 1, 0, 9)),
		"broken a minute after":            of(sealUp(1, 1, 0, 9), lookAt(2, 2, 0, 0)),
		"broken a minute after a look":     of(sealUp(1, 1, 0, 9), lookAt(2, 2, 0, 9), lookAt(3, 3, 0, 0)),
		"broken, then opened":              of(sealUp(1, 1, 0, 9), lookAt(2, 3, 0, 0), lookAt(3, 3, 0, 7), lookAt(4, 3, 0, 0), unseal(5, 3, 0, 8)),
		"whole, another one broken":        of(sealUp(1, 1, 0, 9), sealUp(2, 1, 1, 8), lookAt(3, 3, 0, 0), lookAt(4, 3, 1, 8), unseal(5, 4, 1, 8)),
		"whole as another one is broken":   of(sealUp(1, 1, 0, 9), sealUp(2, 1, 1, 9), lookAt(3, 3, 0, 9), lookAt(4, 3, 1, 0), lookAt(5, 4, 0, 9)),
		"broken as another one is sealed":  of(sealUp(1, 1, 0, 9), sealUp(2, 3, 1, 9), lookAt(3, 3, 0, 0)),
		"whole after another sealing":      of(sealUp(1, 1, 0, 9), unseal(2, 5, 0, 0), sealUp(3, 5, 0, 9), lookAt(4, 5, 0, 9), unseal(5, 6, 0, 9)),
		"broken after another sealing":     of(sealUp(1, 1, 0, 9), unseal(2, 5, 0, 9), sealUp(3, 5, 0, 9), lookAt(4, 6, 0, 0)),
		"a look that comes twice":          of(sealUp(1, 1, 0, 9), sealUp(1, 1, 0, 9), unseal(2, 3, 0, 9), unseal(2, 3, 0, 9)),
		"acts in another order":            changed(func(c *api.Convoy) { slices.Reverse(c.Acts) }),
		"sealed at the end":                of(sealUp(1, 100, 0, 9)),
		"opened at the end, broken":        of(sealUp(1, 99, 0, 9), unseal(2, 100, 0, 0)),
		"no birds, but seals":              {Baskets: 1, Acts: []api.Act{sealUp(0, 0, 0, 1), unseal(1, 0, 0, 1)}},
		"the Ids 0 and 99":                 of(unseal(99, 1, 0, 1), sealUp(0, 1, 0, 1)),
		"the Ids tell the order":           of(takeOut(12, 1, 0, 0), markIn(3, 1, 0, 0, 0, 99)),
		"the minutes tell it before":       of(takeOut(3, 2, 0, 0), markIn(12, 1, 0, 0, 99, 0)),
		"one act as often as it can be":    of(slices.Repeat([]api.Act{markIn(1, 1, 0, 0, 1, 2)}, api.MaxActs)...),
		"birds in other baskets and boxes": of(markIn(1, 1, 0, 2, 1, 2), markIn(2, 1, 1, 0, 1, 2), takeOut(3, 1, 0, 2), sealUp(4, 1, 1, 2), markIn(5, 1, 0, 2, 5, 6)),
	}
}

// An outcome is what a function returned, without its error, and the error.
type outcome struct {
	results []any
	e       api.Errno
}

// A question is all that the functions ask beside the convoy.
type question struct {
	minute, basket, bird int
	members              []int
}

// ask calls each function of a convoy.
func ask(c api.Convoy, q question) map[string]outcome {
	out := map[string]outcome{"Check": {nil, baskets.Check(c)}}
	put := func(name string, e api.Errno, results ...any) {
		for i := range results {
			results[i] = tidy(results[i])
		}
		out[name] = outcome{results, e}
	}
	list, e := baskets.Inside(c, q.minute, q.basket)
	put("Inside", e, list)
	n, e := baskets.Where(c, q.minute, q.bird)
	put("Where", e, n)
	spans, e := baskets.Openings(c, q.basket)
	put("Openings", e, spans)
	list, e = baskets.Broken(c)
	put("Broken", e, list)
	n, e = baskets.Fewest(c)
	put("Fewest", e, n)
	sure, may, e := baskets.Struck(c)
	put("Struck", e, sure, may)
	list, e = baskets.Marked(c, q.members)
	put("Marked", e, list)
	list, e = baskets.Alone(c)
	put("Alone", e, list)
	return out
}

// tidy returns a result, but nil for an empty slice, which is the same.
func tidy(result any) any {
	v := reflect.ValueOf(result)
	if v.Kind() == reflect.Slice && v.Len() == 0 {
		return reflect.Zero(v.Type()).Interface()
	}
	return result
}

// expectErrors checks the errors of all functions: others, but for those that are named; and the zero values.
func expectErrors(t *testing.T, name string, got map[string]outcome, others api.Errno, named map[string]api.Errno) {
	t.Helper()
	for function, o := range got {
		want, ok := named[function]
		if !ok {
			want = others
		}
		if o.e != want {
			t.Errorf("%s: %s has the error %d, not %d", name, function, o.e, want)
		}
		for _, r := range o.results {
			if o.e != api.OK && !reflect.ValueOf(r).IsZero() {
				t.Errorf("%s: %s returns %v with an error", name, function, r)
			}
		}
	}
}

// each returns an error for some functions.
func each(e api.Errno, functions ...string) map[string]api.Errno {
	out := map[string]api.Errno{}
	for _, function := range functions {
		out[function] = e
	}
	return out
}

// wrongQuestions returns questions to convoys of two baskets and three birds, in each of which something is not as
// described, and the errors of the functions that ask for it.
func wrongQuestions() (questions []question, errors []map[string]api.Errno) {
	add := func(q question, functions ...string) {
		questions = append(questions, q)
		errors = append(errors, each(api.ErrArg, functions...))
	}
	for _, n := range tooFarFrom(0, api.MaxMinute) {
		add(question{n, 1, 2, []int{7}}, "Inside", "Where")
	}
	for _, n := range tooFarFrom(0, 1) {
		add(question{9, n, 2, []int{7}}, "Inside", "Openings")
	}
	for _, n := range tooFarFrom(0, 2) {
		add(question{9, 1, n, []int{7}}, "Where")
	}
	for _, n := range tooFarFrom(0, api.MaxMember) {
		add(question{9, 1, 2, []int{n}}, "Marked")
		add(question{9, 1, 2, []int{7, 8, n}}, "Marked")
		add(question{9, 1, 2, []int{n, 8, 9}}, "Marked")
	}
	add(question{9, 1, 2, make([]int, api.MaxDuties+1)}, "Marked")
	return questions, errors
}

// TestErrors: P1, with the errors in their order and zero values beside them.
func TestErrors(t *testing.T) {
	right := question{9, 1, 2, []int{7, 8}}
	questions, errors := wrongQuestions()
	for _, q := range append(questions, right, question{}) {
		for name, c := range invalid() {
			expectErrors(t, name, ask(c, q), api.ErrConvoy, nil)
		}
		for name, c := range clashing() {
			expectErrors(t, name, ask(c, q), api.ErrAct, nil)
		}
		for name, c := range misplaced() {
			expectErrors(t, name, ask(c, q), api.ErrAct, nil)
		}
	}
	for i, q := range questions {
		expectErrors(t, "example", ask(example(), q), api.OK, errors[i])
		errors[i]["Alone"] = api.ErrNone
		expectErrors(t, "no acts", ask(of(), q), api.OK, errors[i])
	}
	for _, q := range []question{right, {}, {minute: api.MaxMinute, members: make([]int, api.MaxDuties)}} {
		expectErrors(t, "example", ask(example(), q), api.OK, nil)
		expectErrors(t, "no acts", ask(of(), q), api.OK, each(api.ErrNone, "Alone"))
	}
	expectErrors(t, "no birds", ask(api.Convoy{Baskets: 1}, question{}), api.OK, map[string]api.Errno{"Where": api.ErrArg, "Alone": api.ErrNone})
}

// TestManyErrors: P1, convoys that are not valid, or clash, and have acts out of place.
func TestManyErrors(t *testing.T) {
	for name, c := range misplaced() {
		c.End = api.MaxMinute + 1
		expectErrors(t, name, ask(c, question{}), api.ErrConvoy, nil)
	}
	for name, c := range clashing() {
		c.Duties = []api.Duty{duty(0, 2, 0, 0)}
		expectErrors(t, name, ask(c, question{}), api.ErrConvoy, nil)
		c.Duties = nil
		c.Acts = append(c.Acts, takeOut(50, 0, 1, 0), takeOut(50, 0, 1, 1))
		expectErrors(t, name, ask(c, question{}), api.ErrAct, nil)
	}
}

// TestCheck: P5.1.
func TestCheck(t *testing.T) {
	for name, c := range invalid() {
		if e := baskets.Check(c); e != api.ErrConvoy {
			t.Errorf("%s: Check = %d", name, e)
		}
	}
	for name, c := range clashing() {
		if e := baskets.Check(c); e != api.ErrAct {
			t.Errorf("%s: Check = %d", name, e)
		}
	}
	for name, c := range misplaced() {
		if e := baskets.Check(c); e != api.ErrAct {
			t.Errorf("%s: Check = %d", name, e)
		}
	}
	for name, c := range placed() {
		if e := baskets.Check(c); e != api.OK {
			t.Errorf("%s: Check = %d", name, e)
		}
	}
	for i, c := range []api.Convoy{
		example(), doubled(), largest(), {Baskets: 1}, {Baskets: 6, Birds: 12, End: 9999}, {Baskets: 1, Acts: []api.Act{}, Duties: []api.Duty{}},
		guarded(of(), duty(0, 0, 0, 0), duty(99, 1, 9999, 9999), duty(99, 1, 9999, 9999), duty(5, 0, 0, 9999)),
	} {
		if e := baskets.Check(c); e != api.OK {
			t.Errorf("%d: Check = %d", i, e)
		}
	}
}

// TestLimits: P5.1, a number that is still within its limits does not make a convoy invalid.
func TestLimits(t *testing.T) {
	for _, f := range fields() {
		for _, n := range []int{f.low, f.high} {
			c := changed(func(c *api.Convoy) { f.set(c, n) })
			if e := baskets.Check(c); e == api.ErrConvoy && !strings.HasPrefix(f.name, "Kind") {
				t.Errorf("%s %d: Check = %d", f.name, n, e)
			}
		}
	}
}

// TestInside: P5.2.
func TestInside(t *testing.T) {
	moved := of(markIn(9, 3, 0, 2, 1, 2), markIn(2, 3, 0, 0, 1, 2), takeOut(5, 5, 0, 0), markIn(6, 5, 1, 0, 1, 2), markIn(1, 8, 0, 1, 3, 4))
	full := largest()
	for i, c := range []struct {
		c              api.Convoy
		minute, basket int
		want           []int
	}{
		{example(), 4, 0, nil}, {example(), 5, 0, []int{0}}, {example(), 6, 0, []int{0, 1}}, {example(), 9, 0, []int{0, 1}}, {example(), 9, 1, []int{2}},
		{example(), 6, 1, nil}, {example(), 60, 0, []int{0, 1}}, {example(), 80, 0, []int{0, 1}}, {example(), 81, 0, []int{1}}, {example(), 81, 1, []int{2}},
		{example(), 100, 0, []int{1}}, {example(), 9999, 0, []int{1}}, {example(), 9999, 1, []int{2}}, {example(), 0, 0, nil},
		{moved, 2, 0, nil}, {moved, 3, 0, []int{0, 2}}, {moved, 4, 0, []int{0, 2}}, {moved, 5, 0, []int{2}}, {moved, 5, 1, []int{0}}, {moved, 8, 0, []int{1, 2}},
		{full, 0, 5, []int{5, 11}}, {full, 9998, 0, []int{0, 6}}, {full, 9999, 0, []int{6}}, {of(), 0, 0, nil}, {api.Convoy{Baskets: 1}, 0, 0, nil},
	} {
		if l, e := baskets.Inside(c.c, c.minute, c.basket); !slices.Equal(l, c.want) || e != api.OK {
			t.Errorf("%d: Inside = %v, %d, not %v", i, l, e, c.want)
		}
	}
}

// TestWhere: P5.3.
func TestWhere(t *testing.T) {
	moved := placed()["marked in, out, and in"]
	for i, c := range []struct {
		c            api.Convoy
		minute, bird int
		want         int
	}{
		{example(), 5, 1, -1}, {example(), 6, 1, 0}, {example(), 6, 2, -1}, {example(), 7, 2, 1}, {example(), 0, 0, -1}, {example(), 5, 0, 0},
		{example(), 80, 0, 0}, {example(), 81, 0, -1}, {example(), 9999, 0, -1}, {example(), 9999, 1, 0}, {example(), 9999, 2, 1},
		{moved, 0, 0, -1}, {moved, 1, 0, 0}, {moved, 1, 1, -1}, {of(), 9999, 2, -1},
		{of(markIn(1, 1, 0, 0, 1, 2), takeOut(2, 1, 0, 0)), 1, 0, -1}, {of(markIn(1, 1, 0, 0, 1, 2), takeOut(2, 3, 0, 0), markIn(3, 5, 1, 0, 1, 2)), 4, 0, -1},
		// seals name no bird
		{of(markIn(1, 1, 1, 0, 1, 2), sealUp(2, 2, 0, 5), unseal(3, 9, 0, 5)), 50, 0, 1}, {largest(), 9998, 11, 5}, {largest(), 9999, 5, -1},
	} {
		if n, e := baskets.Where(c.c, c.minute, c.bird); n != c.want || e != api.OK {
			t.Errorf("%d: Where = %d, %d, not %d", i, n, e, c.want)
		}
	}
}

// TestOpenings: P5.4.
func TestOpenings(t *testing.T) {
	for i, c := range []struct {
		c      api.Convoy
		basket int
		want   []api.Span
	}{
		{example(), 0, []api.Span{span(40, 59)}}, {example(), 1, nil}, {doubled(), 0, []api.Span{span(10, 59)}}, {doubled(), 1, []api.Span{span(10, 79)}},
		{of(), 0, nil}, {of(markIn(1, 1, 0, 0, 1, 2)), 0, nil},
		// not before the sealing, and before the end
		{of(sealUp(1, 7, 0, 9)), 0, []api.Span{span(7, 99)}}, {of(sealUp(1, 7, 0, 9)), 1, nil}, {of(sealUp(1, 0, 1, 9)), 1, []api.Span{span(0, 99)}},
		{of(sealUp(1, 99, 0, 9)), 0, []api.Span{span(99, 99)}}, {of(sealUp(1, 100, 0, 9)), 0, nil},
		{api.Convoy{Baskets: 1, Acts: []api.Act{sealUp(1, 0, 0, 9)}}, 0, nil},
		// after the last look that saw it whole, in its minute, too
		{of(sealUp(1, 7, 0, 9), lookAt(2, 20, 0, 9)), 0, []api.Span{span(20, 99)}}, {of(sealUp(1, 7, 0, 9), lookAt(2, 20, 0, 9), lookAt(3, 30, 0, 9)), 0, []api.Span{span(30, 99)}},
		{of(sealUp(1, 7, 0, 9), lookAt(2, 100, 0, 9)), 0, nil}, {of(sealUp(1, 7, 0, 9), lookAt(2, 99, 0, 9)), 0, []api.Span{span(99, 99)}},
		{of(sealUp(1, 7, 0, 9), lookAt(2, 7, 0, 9)), 0, []api.Span{span(7, 99)}},
		// before the first look that saw it broken
		{of(sealUp(1, 7, 0, 9), lookAt(2, 20, 0, 0)), 0, []api.Span{span(7, 19)}}, {of(sealUp(1, 7, 0, 9), lookAt(2, 20, 0, 10), lookAt(3, 30, 0, 0)), 0, []api.Span{span(7, 19)}},
		{of(sealUp(1, 7, 0, 9), lookAt(2, 19, 0, 9), lookAt(3, 20, 0, 0), unseal(4, 40, 0, 0)), 0, []api.Span{span(19, 19)}},
		{of(sealUp(1, 7, 0, 9), lookAt(2, 8, 0, 0)), 0, []api.Span{span(7, 7)}},
		// before the opening, if it did not see the seal
		{of(sealUp(1, 7, 0, 9), unseal(2, 20, 0, 9)), 0, nil}, {of(sealUp(1, 7, 0, 9), unseal(2, 20, 0, 8)), 0, []api.Span{span(7, 19)}},
		{of(sealUp(1, 7, 0, 9), lookAt(2, 11, 0, 9), unseal(3, 100, 0, 0)), 0, []api.Span{span(11, 99)}}, {of(sealUp(1, 7, 0, 9), unseal(2, 7, 0, 9)), 0, nil},
		// a doubled number: looks refute nothing
		{of(sealUp(1, 7, 0, 9), lookAt(2, 20, 0, 9), sealUp(3, 90, 1, 9)), 0, []api.Span{span(7, 99)}}, {of(sealUp(1, 7, 0, 9), lookAt(2, 20, 0, 9), sealUp(3, 90, 1, 9)), 1, []api.Span{span(90, 99)}},
		{of(sealUp(1, 7, 0, 9), lookAt(2, 20, 0, 9), sealUp(3, 90, 1, 8)), 0, []api.Span{span(20, 99)}},
		{of(sealUp(1, 7, 0, 9), sealUp(1, 7, 0, 9), lookAt(2, 20, 0, 9)), 0, []api.Span{span(20, 99)}},
		{of(sealUp(1, 7, 0, 9), unseal(2, 20, 0, 9), sealUp(3, 60, 0, 9), lookAt(4, 80, 0, 9), unseal(5, 90, 0, 0)), 0, []api.Span{span(7, 19), span(60, 89)}},
		{of(sealUp(1, 7, 0, 9), lookAt(2, 20, 0, 9), lookAt(3, 30, 0, 0), sealUp(4, 95, 1, 9), unseal(5, 95, 1, 9)), 0, []api.Span{span(7, 29)}},
		{of(sealUp(1, 7, 0, 9), unseal(2, 7, 0, 9), sealUp(3, 8, 0, 9)), 0, []api.Span{span(8, 99)}},
		// spans of several periods, together if they touch
		{of(sealUp(1, 7, 0, 9), unseal(2, 20, 0, 0), sealUp(3, 20, 0, 8)), 0, []api.Span{span(7, 99)}}, {of(sealUp(1, 7, 0, 9), unseal(2, 20, 0, 0), sealUp(3, 21, 0, 8)), 0, []api.Span{span(7, 19), span(21, 99)}},
		{of(sealUp(1, 7, 0, 9), unseal(2, 20, 0, 0), sealUp(3, 20, 0, 8), lookAt(4, 21, 0, 8)), 0, []api.Span{span(7, 19), span(21, 99)}},
		{of(sealUp(1, 7, 0, 9), lookAt(2, 19, 0, 0), unseal(3, 20, 0, 0), sealUp(4, 20, 0, 8)), 0, []api.Span{span(7, 18), span(20, 99)}},
		{of(sealUp(1, 7, 0, 9), unseal(2, 20, 0, 9), sealUp(3, 20, 0, 8), unseal(4, 30, 0, 0), sealUp(5, 30, 0, 7), unseal(6, 40, 0, 0), sealUp(7, 50, 0, 6), unseal(8, 60, 0, 6)), 0, []api.Span{span(20, 39)}},
		{of(sealUp(1, 7, 0, 9), sealUp(2, 9, 1, 8), unseal(3, 20, 0, 0), sealUp(4, 20, 0, 6), unseal(5, 30, 1, 0)), 0, []api.Span{span(7, 99)}},
		{of(sealUp(1, 7, 0, 9), sealUp(2, 9, 1, 8), unseal(3, 20, 0, 0), sealUp(4, 20, 0, 6), unseal(5, 30, 1, 0)), 1, []api.Span{span(9, 29)}},
		{largest(), 5, []api.Span{span(0, 9998)}},
	} {
		if l, e := baskets.Openings(c.c, c.basket); !slices.Equal(l, c.want) || e != api.OK {
			t.Errorf("%d: Openings = %v, %d, not %v", i, l, e, c.want)
		}
	}
}

// TestBroken: P5.5 and P5.6.
func TestBroken(t *testing.T) {
	twice := []api.Act{sealUp(1, 7, 0, 9), lookAt(2, 9, 0, 0), unseal(3, 20, 0, 0), sealUp(4, 20, 0, 9), unseal(5, 30, 0, 8)}
	for i, c := range []struct {
		c      api.Convoy
		broken []int
		fewest int
	}{
		{example(), []int{0}, 1}, {doubled(), []int{0}, 1}, {of(), nil, 0}, {of(sealUp(1, 7, 0, 9)), nil, 0}, {of(sealUp(1, 7, 0, 9), unseal(2, 9, 0, 9)), nil, 0},
		{of(sealUp(1, 7, 0, 9), lookAt(2, 9, 0, 9), sealUp(3, 9, 1, 9), unseal(4, 9, 1, 9)), nil, 0}, {of(sealUp(1, 7, 1, 9), unseal(2, 9, 1, 0)), []int{1}, 1},
		{of(sealUp(1, 7, 1, 9), lookAt(2, 9, 1, 999)), []int{1}, 1}, {of(twice[:2]...), []int{0}, 1}, {of(twice[:4]...), []int{0}, 1}, {of(twice...), []int{0}, 2},
		{of(append(twice, sealUp(11, 1, 1, 5), lookAt(12, 2, 1, 5), unseal(13, 3, 1, 4))...), []int{0, 1}, 3},
		{of(append(twice, sealUp(11, 1, 1, 5), unseal(12, 3, 1, 5))...), []int{0}, 2},
		{of(sealUp(1, 7, 0, 9), unseal(2, 9, 0, 9), sealUp(3, 9, 0, 8), unseal(4, 12, 0, 9)), []int{0}, 1},
		{of(sealUp(1, 7, 0, 9), unseal(2, 9, 0, 0), sealUp(3, 9, 0, 8), unseal(4, 12, 0, 8)), []int{0}, 1}, {largest(), []int{0, 1, 2, 3, 4, 5}, 6},
	} {
		if l, e := baskets.Broken(c.c); !slices.Equal(l, c.broken) || e != api.OK {
			t.Errorf("%d: Broken = %v, %d, not %v", i, l, e, c.broken)
		}
		if n, e := baskets.Fewest(c.c); n != c.fewest || e != api.OK {
			t.Errorf("%d: Fewest = %d, %d, not %d", i, n, e, c.fewest)
		}
	}
}

// TestStruck: P5.7.
func TestStruck(t *testing.T) {
	// the bird 2 is in it in the first period, the bird 0 in the second one, and 1 in both
	two := func(seal, other int) api.Convoy {
		return of(markIn(1, 1, 0, 2, 1, 2), markIn(2, 2, 0, 1, 1, 2), sealUp(3, 7, 0, 9), unseal(4, 20, 0, seal), takeOut(5, 20, 0, 2),
			markIn(6, 20, 0, 0, 1, 2), sealUp(7, 20, 0, 8), unseal(8, 30, 0, other))
	}
	for i, c := range []struct {
		c         api.Convoy
		sure, may []int
	}{
		{example(), []int{0, 1}, []int{0, 1}}, {doubled(), []int{0, 1}, []int{0, 1, 2}}, {of(), nil, nil}, {of(markIn(1, 1, 0, 2, 1, 2)), nil, nil},
		{two(9, 8), nil, nil}, {two(0, 8), []int{1, 2}, []int{1, 2}}, {two(9, 0), []int{0, 1}, []int{0, 1}}, {two(0, 0), []int{0, 1, 2}, []int{0, 1, 2}}, {two(8, 9), []int{0, 1, 2}, []int{0, 1, 2}},
		// an empty basket
		{of(sealUp(1, 7, 0, 9), unseal(2, 20, 0, 0), markIn(3, 20, 0, 0, 1, 2)), nil, nil}, {of(markIn(1, 1, 0, 0, 1, 2), takeOut(2, 7, 0, 0), sealUp(3, 7, 0, 9), unseal(4, 20, 0, 0)), nil, nil},
		{of(markIn(1, 1, 1, 0, 1, 2), sealUp(2, 7, 0, 9), unseal(3, 20, 0, 0)), nil, nil},
		// what nobody looked at any more
		{of(markIn(1, 1, 0, 0, 1, 2), sealUp(2, 7, 0, 9)), nil, []int{0}}, {of(markIn(1, 1, 0, 0, 1, 2), sealUp(2, 100, 0, 9)), nil, nil},
		{of(markIn(1, 7, 0, 0, 1, 2), sealUp(2, 7, 0, 9), lookAt(3, 9, 0, 9)), nil, []int{0}}, {of(markIn(1, 7, 0, 0, 1, 2), sealUp(2, 7, 0, 9), lookAt(3, 100, 0, 9)), nil, nil},
		// one basket is broken, a bird in the other one may be struck
		{of(markIn(1, 1, 0, 2, 1, 2), markIn(2, 1, 1, 0, 1, 2), sealUp(3, 7, 0, 9), sealUp(4, 7, 1, 8), unseal(5, 20, 0, 0)), []int{2}, []int{0, 2}},
		// a doubled number, though both saw it
		{of(markIn(1, 1, 0, 2, 1, 2), markIn(2, 1, 1, 0, 1, 2), sealUp(3, 7, 0, 9), sealUp(4, 7, 1, 9), unseal(5, 20, 0, 9), unseal(6, 20, 1, 9)), nil, []int{0, 2}},
		{of(markIn(1, 1, 0, 2, 1, 2), markIn(2, 1, 1, 0, 1, 2), sealUp(3, 7, 0, 9), sealUp(4, 20, 1, 9), unseal(5, 20, 0, 9), unseal(6, 20, 1, 9)), nil, []int{2}},
		{largest(), []int{0, 1, 2, 3, 4, 5, 6, 7, 8, 9, 10, 11}, []int{0, 1, 2, 3, 4, 5, 6, 7, 8, 9, 10, 11}},
	} {
		sure, may, e := baskets.Struck(c.c)
		if !slices.Equal(sure, c.sure) || !slices.Equal(may, c.may) || e != api.OK {
			t.Errorf("%d: Struck = %v, %v, %d, not %v, %v", i, sure, may, e, c.sure, c.may)
		}
	}
}

// TestMarked: P5.8.
func TestMarked(t *testing.T) {
	again := of(markIn(1, 1, 0, 1, 5, 6), takeOut(2, 2, 0, 1), markIn(3, 3, 0, 1, 0, 99), takeOut(4, 4, 0, 1), markIn(5, 100, 1, 0, 6, 0))
	for i, c := range []struct {
		c       api.Convoy
		members []int
		want    []int
	}{
		{example(), []int{7, 8}, []int{0}}, {example(), []int{7, 8, 9}, []int{0, 1, 2}}, {example(), []int{9, 7}, []int{1}}, {example(), []int{9, 8}, []int{2}},
		{example(), nil, nil}, {example(), []int{}, nil}, {example(), []int{7}, nil}, {example(), []int{7, 7, 7}, nil}, {example(), []int{8, 1, 7, 8, 2, 7}, []int{0}}, {example(), []int{3, 4}, nil},
		{example(), []int{0, 99}, nil}, {again, []int{5, 6}, []int{1}}, {again, []int{0, 99}, []int{1}}, {again, []int{5, 99}, nil}, {again, []int{0, 6}, []int{0}}, {again, []int{0, 5, 6}, []int{0, 1}},
		{again, []int{6, 99}, nil}, {of(), []int{0, 1}, nil},
		// the members of other acts are nobody
		{of(sealUp(1, 1, 0, 5), unseal(2, 2, 0, 5), markIn(3, 3, 0, 1, 0, 1)), []int{0}, nil}, {of(sealUp(1, 1, 0, 5), markIn(3, 3, 1, 1, 0, 1), takeOut(4, 4, 1, 1)), []int{0, 1}, []int{1}},
		{largest(), []int{99, 0}, []int{0, 1, 2, 3, 4, 5, 6, 7, 8, 9, 10, 11}}, {again, slices.Repeat([]int{6, 5}, api.MaxDuties/2), []int{1}},
	} {
		if l, e := baskets.Marked(c.c, c.members); !slices.Equal(l, c.want) || e != api.OK {
			t.Errorf("%d: Marked = %v, %d, not %v", i, l, e, c.want)
		}
	}
}

// TestAlone: P5.9.
func TestAlone(t *testing.T) {
	// opened in the minutes 20 to 39
	one := []api.Act{sealUp(1, 10, 0, 9), lookAt(2, 20, 0, 9), lookAt(3, 40, 0, 0), unseal(4, 60, 0, 0)}
	// and, later, in 70 to 79; and the basket 1 in 15 to 29
	two := append(slices.Clone(one), sealUp(5, 70, 0, 8), unseal(6, 80, 0, 0))
	three := append(slices.Clone(two), sealUp(11, 15, 1, 7), unseal(12, 30, 1, 0))
	for i, c := range []struct {
		c    api.Convoy
		want []int
	}{
		{example(), []int{4}}, {doubled(), []int{3, 4}}, {guarded(example()), nil},
		{guarded(of(one...), duty(1, 0, 0, 19), duty(2, 0, 40, 99), duty(3, 1, 0, 99)), nil}, {guarded(of(one...), duty(99, 0, 0, 20), duty(0, 0, 39, 99)), []int{0, 99}},
		{guarded(of(one...), duty(5, 0, 0, 9999)), []int{5}}, {guarded(of(one...), duty(5, 0, 30, 30), duty(5, 0, 30, 30), duty(4, 1, 30, 30)), []int{5}},
		{guarded(of(one...), duty(9, 0, 20, 20), duty(7, 0, 39, 39), duty(8, 0, 19, 19), duty(6, 0, 40, 40)), []int{7, 9}},
		{guarded(of(one...), duty(5, 0, 0, 19), duty(5, 0, 40, 99), duty(5, 1, 0, 99)), nil}, {guarded(of(one...), duty(5, 0, 0, 19), duty(5, 0, 25, 26)), []int{5}},
		// all broken periods
		{guarded(of(two...), duty(1, 0, 0, 50), duty(2, 0, 60, 99), duty(3, 0, 39, 70), duty(4, 0, 25, 25), duty(4, 0, 79, 90), duty(5, 0, 40, 69)), []int{3, 4}},
		{guarded(of(two...), duty(1, 0, 0, 69), duty(2, 0, 80, 99), duty(2, 0, 20, 30)), nil},
		{guarded(of(three...), duty(1, 0, 0, 99), duty(2, 1, 0, 99), duty(3, 0, 0, 99), duty(3, 1, 29, 29), duty(4, 0, 0, 99), duty(4, 1, 30, 99)), []int{3}},
		// a period that may have been opened, too, but is not broken
		{guarded(of(append(slices.Clone(one), sealUp(11, 5, 1, 7))...), duty(1, 0, 30, 30), duty(2, 1, 0, 99)), []int{1}},
		{largest(), nil}, {guarded(of(append(slices.Clone(one), sealUp(9, 90, 1, 9))...), duty(1, 0, 10, 10), duty(2, 0, 9, 9)), []int{1}},
	} {
		if l, e := baskets.Alone(c.c); !slices.Equal(l, c.want) || e != api.OK {
			t.Errorf("%d: Alone = %v, %d, not %v", i, l, e, c.want)
		}
	}
	for i, c := range []api.Convoy{
		guarded(of(), duty(1, 0, 0, 99)), guarded(of(sealUp(1, 10, 0, 9)), duty(1, 0, 0, 99)), guarded(of(sealUp(1, 10, 0, 9), unseal(2, 20, 0, 9)), duty(1, 0, 0, 99)),
		guarded(of(sealUp(1, 10, 0, 9), unseal(2, 20, 0, 9), sealUp(3, 20, 1, 9)), duty(1, 0, 0, 99)),
	} {
		if l, e := baskets.Alone(c); len(l) > 0 || e != api.ErrNone {
			t.Errorf("%d: Alone = %v, %d", i, l, e)
		}
	}
}

// TestMemory: P1 with R4, no argument is changed, and no result shares memory.
func TestMemory(t *testing.T) {
	// not in their order, one of them twice, and with memory behind them
	acts := append(example().Acts, example().Acts[3], lookAt(50, 3, 4, 5))
	slices.Reverse(acts[:11])
	duties := append(example().Duties, duty(9, 8, 7, 6))
	members := []int{9, 7, 8, 9, 99}
	c := changed(func(c *api.Convoy) { c.Acts, c.Duties = acts[:11], duties[:3] })
	actsBefore, dutiesBefore, membersBefore := slices.Clone(acts), slices.Clone(duties), slices.Clone(members)
	ask(c, question{9, 0, 1, members[:4]})
	first := []func() []int{
		func() []int { l, _ := baskets.Inside(c, 9, 0); return l }, func() []int { l, _ := baskets.Broken(c); return l },
		func() []int { l, _, _ := baskets.Struck(c); return l }, func() []int { _, l, _ := baskets.Struck(c); return l },
		func() []int { l, _ := baskets.Marked(c, members); return l }, func() []int { l, _ := baskets.Alone(c); return l },
	}
	for i, call := range first {
		call()[0] = 77
		if again := call(); again[0] == 77 {
			t.Errorf("%d: results share memory: %v", i, again)
		}
	}
	sure, may, _ := baskets.Struck(c)
	sure[0] = 77
	spans, _ := baskets.Openings(c, 0)
	spans[0] = span(77, 77)
	if again, _ := baskets.Openings(c, 0); again[0] != span(40, 59) || may[0] == 77 {
		t.Errorf("results share memory: %v, %v", again, may)
	}
	if !slices.Equal(acts, actsBefore) || !slices.Equal(duties, dutiesBefore) || !slices.Equal(members, membersBefore) {
		t.Errorf("an argument is changed: %v, %v, %v", acts, duties, members)
	}
}
