package rings_test

import (
	"math"
	"reflect"
	"slices"
	"testing"

	"squeaker/api"
	"squeaker/rings"
)

func span(low, high int) api.Span { return api.Span{Low: low, High: high} }

func frac(num, den int) api.Frac { return api.Frac{Num: num, Den: den} }

// example is the flock F of the chapter.
func example() api.Flock {
	return api.Flock{Birds: []api.Bird{
		{Ring: 100, Sex: api.Cock, Born: span(1, 1)},
		{Ring: 101, Sex: api.Hen, Born: span(1, 2)},
		{Ring: 102, Sex: api.Cock, Born: span(2, 3), Sires: []int{0}, Dams: []int{1}},
		{Ring: 103, Sex: api.Hen, Born: span(2, 4), Sires: []int{0}, Dams: []int{1}},
		{Ring: 102, Sex: api.Cock, Born: span(3, 4), Sires: []int{0, 2}, Dams: []int{1, 3}},
		{Ring: 105, Sex: api.Hen, Born: span(5, 5), Sires: []int{4}, Dams: []int{3}},
	}}
}

// changed returns the example with something changed.
func changed(change func(birds []api.Bird)) api.Flock {
	f := example()
	change(f.Birds)
	return f
}

// flockOf returns birds of one sex that can be born in any year.
func flockOf(sex, n int) []api.Bird {
	return slices.Repeat([]api.Bird{{Sex: sex, Born: span(0, api.MaxYear)}}, n)
}

// most has MaxTrees pedigrees, all of which can be: four chicks with four possible fathers and two mothers each.
func most() api.Flock {
	birds := append(flockOf(api.Cock, 4), flockOf(api.Hen, 2)...)
	for i := range birds {
		birds[i].Born = span(0, 0)
	}
	chick := api.Bird{Ring: 1, Sex: api.Hen, Born: span(1, 2), Sires: []int{0, 1, 2, 3}, Dams: []int{4, 5}}
	return api.Flock{Birds: append(birds, chick, chick, chick, chick)}
}

// crowded has more than MaxTrees pedigrees, none of which can be.
func crowded() api.Flock {
	f := most()
	f.Birds[3].Sires = []int{0, 1}
	return f
}

// impossible has a bird that can only be born before its father.
func impossible() api.Flock {
	return changed(func(birds []api.Bird) { birds[5].Born = span(3, 3) })
}

// chain has ten cocks, each the father of the next one, in as many years.
func chain(years int) api.Flock {
	f := api.Flock{Birds: flockOf(api.Cock, api.MaxBirds)}
	for i := range f.Birds {
		f.Birds[i].Born = span(1, years)
		if i > 0 {
			f.Birds[i].Sires = []int{i - 1}
		}
	}
	return f
}

// invalid returns flocks each of which breaks one rule, by what is broken.
func invalid() map[string]api.Flock {
	flocks := map[string]api.Flock{"a bird too many": {Birds: flockOf(api.Cock, api.MaxBirds+1)}}
	for name, change := range map[string]func(birds []api.Bird){
		"a ring below 0":          func(b []api.Bird) { b[0].Ring = -1 },
		"a ring too high":         func(b []api.Bird) { b[5].Ring = api.MaxRing + 1 },
		"the sex 0":               func(b []api.Bird) { b[0].Sex = 0 },
		"the sex 3":               func(b []api.Bird) { b[0].Sex = 3 },
		"a year below 0":          func(b []api.Bird) { b[0].Born = span(-1, 1) },
		"a year too late":         func(b []api.Bird) { b[0].Born = span(1, api.MaxYear+1) },
		"years that end first":    func(b []api.Bird) { b[3].Born = span(3, 2) },
		"too many fathers":        func(b []api.Bird) { fiveParents(b, api.Cock) },
		"fathers that descend":    func(b []api.Bird) { b[4].Sires = []int{2, 0} },
		"a father twice":          func(b []api.Bird) { b[4].Sires = []int{0, 0} },
		"a father below 0":        func(b []api.Bird) { b[4].Sires = []int{-1} },
		"a father that is none":   func(b []api.Bird) { b[4].Sires = []int{0, 6} },
		"a father that is a hen":  func(b []api.Bird) { b[4].Sires = []int{0, 1} },
		"its own father":          func(b []api.Bird) { b[4].Sires = []int{4} },
		"too many mothers":        func(b []api.Bird) { fiveParents(b, api.Hen) },
		"mothers that descend":    func(b []api.Bird) { b[4].Dams = []int{3, 1} },
		"a mother twice":          func(b []api.Bird) { b[4].Dams = []int{3, 3} },
		"a mother below 0":        func(b []api.Bird) { b[4].Dams = []int{-1} },
		"a mother that is none":   func(b []api.Bird) { b[4].Dams = []int{3, 6} },
		"a mother that is a cock": func(b []api.Bird) { b[4].Dams = []int{2} },
		"its own mother":          func(b []api.Bird) { b[5].Dams = []int{5} },
		"a number far too low":    func(b []api.Bird) { b[4].Sires = []int{math.MinInt} },
		"a number far too high":   func(b []api.Bird) { b[4].Dams = []int{math.MaxInt} },
	} {
		flocks[name] = changed(change)
	}
	return flocks
}

// fiveParents gives the last of six birds all others as possible parents of a sex.
func fiveParents(b []api.Bird, sex int) {
	copy(b, flockOf(sex, 6))
	all := []int{0, 1, 2, 3, 4}
	if sex == api.Cock {
		b[5].Sires = all
	} else {
		b[5].Dams = all
	}
}

// An outcome is what a function returned, without its error, and the error.
type outcome struct {
	results []any
	e       api.Errno
}

// ask calls each function of a flock, with the same two birds.
func ask(f api.Flock, a, b int) map[string]outcome {
	out := map[string]outcome{"Check": {nil, rings.Check(f)}}
	doubled, e := rings.Doubled(f)
	out["Doubled"] = outcome{[]any{doubled}, e}
	many, e := rings.Many(f)
	out["Many"] = outcome{[]any{many}, e}
	sires, dams, e := rings.Show(f)
	out["Show"] = outcome{[]any{sires, dams}, e}
	sires, dams, e = rings.Parents(f, a)
	out["Parents"] = outcome{[]any{sires, dams}, e}
	kind, e := rings.Ancestor(f, a, b)
	out["Ancestor"] = outcome{[]any{kind}, e}
	years, e := rings.Births(f, a)
	out["Births"] = outcome{[]any{years}, e}
	low, high, e := rings.Inbred(f, a)
	out["Inbred"] = outcome{[]any{low, high}, e}
	low, high, e = rings.Chick(f, a, b)
	out["Chick"] = outcome{[]any{low, high}, e}
	return out
}

// expectErrors checks the errors of all functions: others, but for those that are named; and the zero values.
func expectErrors(t *testing.T, name string, got map[string]outcome, others api.Errno, named map[string]api.Errno) {
	t.Helper()
	for function, o := range got {
		want, ok := named[function]
		if !ok {
			want = others
		}
		if o.e != want {
			t.Errorf("%s: %s has the error %d, not %d", name, function, o.e, want)
		}
		for _, r := range o.results {
			v := reflect.ValueOf(r)
			if o.e != api.OK && !v.IsZero() && (v.Kind() != reflect.Slice || v.Len() > 0) {
				t.Errorf("%s: %s returns %v with an error", name, function, r)
			}
		}
	}
}

// TestErrors: P1, with the errors in their order and zero values beside them.
func TestErrors(t *testing.T) {
	free := map[string]api.Errno{"Check": api.OK, "Doubled": api.OK}
	counted := map[string]api.Errno{"Check": api.OK, "Doubled": api.OK, "Many": api.OK}
	whole := map[string]api.Errno{"Check": api.OK, "Doubled": api.OK, "Many": api.OK, "Show": api.OK}
	wrong := [][2]int{{-1, -1}, {6, 6}, {math.MinInt, math.MaxInt}, {math.MaxInt, math.MinInt}}
	for name, f := range invalid() {
		for _, b := range append(wrong, [2]int{0, 1}) {
			expectErrors(t, name, ask(f, b[0], b[1]), api.ErrFlock, nil)
		}
	}
	for _, b := range append(wrong, [2]int{0, 4}, [2]int{10, 10}) {
		expectErrors(t, "crowded", ask(crowded(), b[0], b[1]), api.ErrMany, free)
	}
	expectErrors(t, "impossible", ask(impossible(), 0, 1), api.ErrNone, counted)
	late := map[string]api.Errno{"Check": api.OK, "Doubled": api.OK, "Many": api.OK, "Show": api.ErrNone}
	for _, b := range wrong {
		expectErrors(t, "impossible", ask(impossible(), b[0], b[1]), api.ErrArg, late)
		expectErrors(t, "example", ask(example(), b[0], b[1]), api.ErrArg, whole)
		expectErrors(t, "no bird", ask(api.Flock{}, b[0], b[1]), api.ErrArg, whole)
	}
	expectErrors(t, "example", ask(example(), 0, 1), api.OK, nil)
	expectErrors(t, "no bird", ask(api.Flock{}, 0, 0), api.ErrArg, whole)
}

// TestSecondBird: P1.6 and P1.9, a bird that is none beside one that is.
func TestSecondBird(t *testing.T) {
	for _, b := range []int{-1, 6, math.MinInt, math.MaxInt} {
		for _, f := range []api.Flock{example(), impossible()} {
			_, first := rings.Ancestor(f, b, 0)
			_, second := rings.Ancestor(f, 0, b)
			_, _, cock := rings.Chick(f, b, 1)
			_, _, hen := rings.Chick(f, 0, b)
			if first != api.ErrArg || second != api.ErrArg || cock != api.ErrArg || hen != api.ErrArg {
				t.Errorf("the bird %d: %d, %d, %d, %d", b, first, second, cock, hen)
			}
		}
	}
}

// TestCircle: P1, each pedigree has a circle, with years enough for it to go around often.
func TestCircle(t *testing.T) {
	f := api.Flock{Birds: flockOf(api.Cock, api.MaxBirds)}
	for i := range f.Birds {
		f.Birds[i].Sires = []int{(i + 1) % api.MaxBirds}
	}
	counted := map[string]api.Errno{"Check": api.OK, "Doubled": api.OK, "Many": api.OK, "Chick": api.ErrArg}
	expectErrors(t, "circle", ask(f, 0, 1), api.ErrNone, counted)
	if n, _ := rings.Many(f); n != 0 {
		t.Errorf("Many = %d", n)
	}
	f.Birds[9].Sires = []int{0, 8}
	f.Birds[0].Sires = nil
	if n, e := rings.Many(f); n != 1 || e != api.OK {
		t.Errorf("Many of an open circle = %d, %d", n, e)
	}
}

// TestMemory: P1 with R4, no argument is changed, and no result shares memory with one.
func TestMemory(t *testing.T) {
	f := example()
	sires, dams, _ := rings.Parents(f, 4)
	ask(f, 4, 3)
	sires[0], dams[0] = 99, 99
	if !reflect.DeepEqual(f, example()) {
		t.Errorf("the flock is changed: %v", f)
	}
}

// TestCheck: P1.1.
func TestCheck(t *testing.T) {
	for name, f := range map[string]api.Flock{
		"no bird":          {},
		"empty lists":      {Birds: []api.Bird{{Sex: api.Hen, Sires: []int{}, Dams: []int{}}}},
		"the example":      example(),
		"ten birds":        {Birds: flockOf(api.Cock, api.MaxBirds)},
		"the least ring":   changed(func(b []api.Bird) { b[0].Ring = 0 }),
		"the last ring":    changed(func(b []api.Bird) { b[0].Ring = api.MaxRing }),
		"all years":        changed(func(b []api.Bird) { b[0].Born = span(0, api.MaxYear) }),
		"four fathers":     {Birds: append(flockOf(api.Cock, 4), api.Bird{Sex: api.Cock, Sires: []int{0, 1, 2, 3}})},
		"four mothers":     {Birds: append(flockOf(api.Hen, 4), api.Bird{Sex: api.Cock, Dams: []int{0, 1, 2, 3}})},
		"a younger father": changed(func(b []api.Bird) { b[0].Sires = []int{2, 4} }),
		"no truth":         impossible(),
		"many pedigrees":   crowded(),
	} {
		if e := rings.Check(f); e != api.OK {
			t.Errorf("%s: Check = %d", name, e)
		}
	}
	for name, f := range invalid() {
		if e := rings.Check(f); e != api.ErrFlock {
			t.Errorf("%s: Check = %d", name, e)
		}
	}
}

// TestDoubled: P1.2.
func TestDoubled(t *testing.T) {
	for _, c := range []struct{ rings, want []int }{
		{[]int{}, nil},
		{[]int{7}, nil},
		{[]int{1, 2, 3}, nil},
		{[]int{100, 101, 102, 103, 102, 105}, []int{102}},
		{[]int{9, 9, 9, 9}, []int{9}},
		{[]int{9999, 0, 50, 0, 9999, 50, 51}, []int{0, 50, 9999}},
		{[]int{3, 2, 1, 1, 2, 3, 3, 2, 1, 4}, []int{1, 2, 3}},
	} {
		f := api.Flock{Birds: flockOf(api.Cock, len(c.rings))}
		for i, r := range c.rings {
			f.Birds[i].Ring = r
		}
		if got, e := rings.Doubled(f); e != api.OK || !slices.Equal(got, c.want) {
			t.Errorf("Doubled of %v = %v, %d", c.rings, got, e)
		}
	}
}

// TestMany: P1.3.
func TestMany(t *testing.T) {
	for name, c := range map[string]struct {
		f    api.Flock
		many int
	}{
		"no bird":        {api.Flock{}, 1},
		"one bird":       {api.Flock{Birds: flockOf(api.Hen, 1)}, 1},
		"the example":    {example(), 4},
		"no truth":       {impossible(), 0},
		"brothers":       {changed(func(b []api.Bird) { b[2].Born, b[4].Born = span(3, 3), span(3, 3) }), 2},
		"a late sister":  {changed(func(b []api.Bird) { b[3].Born = span(4, 4) }), 2},
		"MaxTrees":       {most(), api.MaxTrees},
		"a chain":        {chain(10), 1},
		"a chain to 99":  {chain(api.MaxYear), 1},
		"a year too few": {chain(9), 0},
	} {
		if n, e := rings.Many(c.f); n != c.many || e != api.OK {
			t.Errorf("%s: Many = %d, %d", name, n, e)
		}
	}
	if n, e := rings.Many(crowded()); n != 0 || e != api.ErrMany {
		t.Errorf("crowded: Many = %d, %d", n, e)
	}
}

// TestHuge: P1, the number of pedigrees of a valid flock is far above MaxTrees.
func TestHuge(t *testing.T) {
	f := api.Flock{Birds: append(flockOf(api.Cock, 5), flockOf(api.Hen, 5)...)}
	for i := range f.Birds {
		for p := range f.Birds {
			if p == i {
				continue
			}
			if b := &f.Birds[i]; f.Birds[p].Sex == api.Cock && len(b.Sires) < api.MaxMay {
				b.Sires = append(b.Sires, p)
			} else if f.Birds[p].Sex == api.Hen && len(b.Dams) < api.MaxMay {
				b.Dams = append(b.Dams, p)
			}
		}
	}
	expectErrors(t, "huge", ask(f, 0, 5), api.ErrMany, map[string]api.Errno{"Check": api.OK, "Doubled": api.OK})
}

// TestShow: P1.4.
func TestShow(t *testing.T) {
	late := changed(func(b []api.Bird) { b[2].Born, b[3].Born, b[4].Born = span(3, 3), span(4, 4), span(3, 3) })
	sires, dams, e := rings.Show(late)
	if e != api.OK || !slices.Equal(sires, []int{-1, -1, 0, 0, 0, 4}) || !slices.Equal(dams, []int{-1, -1, 1, 1, 1, 3}) {
		t.Errorf("Show = %v, %v, %d", sires, dams, e)
	}
	if sires, dams, e := rings.Show(api.Flock{}); len(sires)+len(dams) > 0 || e != api.OK {
		t.Errorf("Show of no bird = %v, %v, %d", sires, dams, e)
	}
	if _, _, e := rings.Show(impossible()); e != api.ErrNone {
		t.Errorf("Show = %d", e)
	}
}

// TestParents: P1.5.
func TestParents(t *testing.T) {
	brothers := changed(func(b []api.Bird) { b[2].Born, b[4].Born = span(3, 3), span(3, 3) })
	for _, c := range []struct {
		f           api.Flock
		bird        int
		sires, dams []int
	}{
		{example(), 0, nil, nil},
		{example(), 2, []int{0}, []int{1}},
		{example(), 4, []int{0, 2}, []int{1, 3}},
		{example(), 5, []int{4}, []int{3}},
		{brothers, 4, []int{0}, []int{1, 3}},
		{changed(func(b []api.Bird) { b[3].Born = span(4, 4) }), 4, []int{0, 2}, []int{1}},
		{changed(func(b []api.Bird) { b[4].Dams = nil }), 4, []int{0, 2}, nil},
		{most(), 9, []int{0, 1, 2, 3}, []int{4, 5}},
	} {
		sires, dams, e := rings.Parents(c.f, c.bird)
		if e != api.OK || !slices.Equal(sires, c.sires) || !slices.Equal(dams, c.dams) {
			t.Errorf("Parents of %d = %v, %v, %d", c.bird, sires, dams, e)
		}
	}
}

// TestAncestor: P1.6.
func TestAncestor(t *testing.T) {
	for _, c := range []struct {
		f                api.Flock
		old, young, kind int
	}{
		{example(), 2, 4, api.Perhaps},
		{example(), 0, 4, api.Surely},
		{example(), 1, 4, api.Surely},
		{example(), 4, 2, api.Never},
		{example(), 5, 5, api.Never},
		{example(), 0, 5, api.Surely},
		{example(), 3, 5, api.Surely},
		{example(), 2, 5, api.Perhaps},
		{example(), 0, 1, api.Never},
		{changed(func(b []api.Bird) { b[2].Born, b[4].Born = span(3, 3), span(3, 3) }), 2, 4, api.Never},
		{chain(10), 0, 9, api.Surely},
		{chain(10), 9, 0, api.Never},
		{most(), 0, 9, api.Perhaps},
	} {
		if kind, e := rings.Ancestor(c.f, c.old, c.young); kind != c.kind || e != api.OK {
			t.Errorf("Ancestor of %d and %d = %d, %d", c.old, c.young, kind, e)
		}
	}
}

// TestBirths: P1.7.
func TestBirths(t *testing.T) {
	for _, c := range []struct {
		f    api.Flock
		bird int
		want api.Span
	}{
		{example(), 1, span(1, 2)},
		{example(), 3, span(2, 4)},
		{example(), 4, span(3, 4)},
		{example(), 5, span(5, 5)},
		{changed(func(b []api.Bird) { b[5].Born = span(4, 4) }), 4, span(3, 3)},
		{changed(func(b []api.Bird) { b[1].Born = span(1, 9) }), 1, span(1, 2)},
		{changed(func(b []api.Bird) { b[2].Born, b[4].Born = span(0, 9), span(4, 4) }), 2, span(2, 9)},
		{chain(10), 0, span(1, 1)},
		{chain(12), 4, span(5, 7)},
		{chain(api.MaxYear), 9, span(10, 99)},
	} {
		if got, e := rings.Births(c.f, c.bird); got != c.want || e != api.OK {
			t.Errorf("Births of %d = %v, %d", c.bird, got, e)
		}
	}
}

// siblings has ten birds: two, and then four couples, each the children of the couple before.
func siblings() api.Flock {
	f := api.Flock{Birds: []api.Bird{{Sex: api.Cock, Born: span(0, 9)}, {Sex: api.Hen, Born: span(0, 9)}}}
	for i := 0; i < 8; i += 2 {
		child := api.Bird{Sex: api.Cock, Born: span(0, 9), Sires: []int{i}, Dams: []int{i + 1}}
		sister := child
		sister.Sex = api.Hen
		f.Birds = append(f.Birds, child, sister)
	}
	return f
}

// TestInbred: P1.8.
func TestInbred(t *testing.T) {
	for _, c := range []struct {
		f         api.Flock
		bird      int
		low, high api.Frac
	}{
		{example(), 0, frac(0, 1), frac(0, 1)},
		{example(), 2, frac(0, 1), frac(0, 1)},
		{example(), 4, frac(0, 1), frac(1, 4)},
		{example(), 5, frac(1, 4), frac(3, 8)},
		{changed(func(b []api.Bird) { b[4].Sires = nil }), 4, frac(0, 1), frac(0, 1)},
		{changed(func(b []api.Bird) { b[4].Dams = nil }), 4, frac(0, 1), frac(0, 1)},
		{changed(func(b []api.Bird) { b[4].Sires = nil }), 5, frac(1, 8), frac(1, 4)},
		{changed(func(b []api.Bird) { b[4].Sires = []int{2} }), 4, frac(1, 4), frac(1, 4)},
		{siblings(), 4, frac(1, 4), frac(1, 4)},
		{siblings(), 6, frac(3, 8), frac(3, 8)},
		{siblings(), 9, frac(1, 2), frac(1, 2)},
	} {
		low, high, e := rings.Inbred(c.f, c.bird)
		if low != c.low || high != c.high || e != api.OK {
			t.Errorf("Inbred of %d = %v, %v, %d", c.bird, low, high, e)
		}
	}
}

// TestChick: P1.9.
func TestChick(t *testing.T) {
	for _, c := range []struct {
		f         api.Flock
		cock, hen int
		low, high api.Frac
	}{
		{example(), 2, 3, frac(1, 4), frac(1, 4)},
		{example(), 0, 3, frac(1, 4), frac(1, 4)},
		{example(), 4, 1, frac(1, 8), frac(3, 8)},
		{example(), 0, 1, frac(0, 1), frac(0, 1)},
		{example(), 4, 3, frac(1, 4), frac(3, 8)},
		{siblings(), 8, 9, frac(19, 32), frac(19, 32)},
		{most(), 3, 9, frac(0, 1), frac(1, 4)},
	} {
		low, high, e := rings.Chick(c.f, c.cock, c.hen)
		if low != c.low || high != c.high || e != api.OK {
			t.Errorf("Chick of %d and %d = %v, %v, %d", c.cock, c.hen, low, high, e)
		}
	}
	for _, f := range []api.Flock{example(), impossible()} {
		for _, c := range [][2]int{{1, 3}, {1, 0}, {2, 4}, {2, 2}, {3, 2}} {
			low, high, e := rings.Chick(f, c[0], c[1])
			if e != api.ErrArg || low != frac(0, 0) || high != frac(0, 0) {
				t.Errorf("Chick of %v = %v, %v, %d", c, low, high, e)
			}
		}
	}
}
