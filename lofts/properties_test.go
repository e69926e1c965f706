package lofts_test

import (
	"math/big"
	"math/rand"
	"reflect"
	"slices"
	"testing"

	"squeaker/api"
	"squeaker/lofts"
)

const rounds = 300

var rules = []int{api.Down, api.Near, api.Up}

// eachMap gives a test many maps of a shape, always the same ones, with the places to which their surveys mostly fit;
// a good part of them has no truth or several.
func eachMap(t *testing.T, s shape, test func(r *rand.Rand, m api.Map, where []api.Point)) {
	t.Helper()
	r := rand.New(rand.NewSource(2))
	without, several := 0, 0
	for range rounds {
		m, where := randomMap(r, s)
		many, e := lofts.Many(m)
		if e != api.OK && e != api.ErrMany {
			t.Fatalf("Many has the error %d of %+v", e, m)
		}
		if many == 0 && e == api.OK {
			without++
		}
		if many > 1 || e == api.ErrMany {
			several++
		}
		test(r, m, where)
		if t.Failed() {
			t.Fatalf("the map: %+v", m)
		}
	}
	if without < rounds/50 || several < rounds/4 {
		t.Fatalf("of %d maps %d have no truth, and %d have several", rounds, without, several)
	}
}

func hasTruth(m api.Map) bool {
	_, e := lofts.Show(m)
	return e == api.OK
}

// pairs calls a function for each two lofts, also a loft and itself.
func pairs(m api.Map, call func(a, b int)) {
	for a := range m.Lofts {
		for b := range m.Lofts {
			call(a, b)
		}
	}
}

// TestModel: P2.3 to P2.10 and P2.12, everything is what the definitions say, truth by truth.
func TestModel(t *testing.T) {
	eachMap(t, small, func(r *rand.Rand, m api.Map, _ []api.Point) {
		all, truths := worlds(m)
		if n, e := lofts.Many(m); n != len(truths) || e != api.OK {
			t.Errorf("Many = %d, %d, not %d", n, e, len(truths))
		}
		least := slices.MinFunc(all, func(v, w world) int { return len(v.wrong) - len(w.wrong) })
		if n, e := lofts.Fewest(m); n != len(least.wrong) || e != api.OK {
			t.Errorf("Fewest = %d, %d, not %d", n, e, len(least.wrong))
		}
		if len(truths) == 0 {
			counted := map[string]api.Errno{"Check": api.OK, "Length": api.OK, "Many": api.OK, "Fewest": api.OK}
			expectErrors(t, "no truth", ask(m, question{}), api.ErrNone, counted)
			return
		}
		modelBlame(t, m, truths)
		modelShow(t, m, truths)
		for loft := range m.Lofts {
			modelPlaces(t, m, truths, loft)
		}
		pairs(m, func(a, b int) {
			modelDistance(t, m, truths, a, b)
			modelWithin(t, m, truths, a, r.Intn(12))
			for c := range m.Lofts {
				modelNearer(t, m, truths, a, b, c)
			}
		})
	})
}

func modelBlame(t *testing.T, m api.Map, truths []world) {
	var want []int
	for i := range m.Surveys {
		if !slices.ContainsFunc(truths, func(w world) bool { return !slices.Contains(w.wrong, i) }) {
			want = append(want, i)
		}
	}
	if got, e := lofts.Blame(m); !slices.Equal(got, want) || e != api.OK {
		t.Errorf("Blame = %v, %d, not %v", got, e, want)
	}
}

func modelShow(t *testing.T, m api.Map, truths []world) {
	got, e := lofts.Show(m)
	if e != api.OK || !slices.ContainsFunc(truths, func(w world) bool { return slices.Equal(w.where, got) }) {
		t.Errorf("Show = %v, %d", got, e)
	}
}

func modelPlaces(t *testing.T, m api.Map, truths []world, loft int) {
	want := slices.DeleteFunc(everywhere(m), func(p api.Point) bool {
		return !slices.ContainsFunc(truths, func(w world) bool { return w.where[loft] == p })
	})
	if got, e := lofts.Places(m, loft); !slices.Equal(got, want) || e != api.OK {
		t.Errorf("Places of %d = %v, %d, not %v", loft, got, e, want)
	}
}

func modelDistance(t *testing.T, m api.Map, truths []world, a, b int) {
	for _, rule := range rules {
		var lengths []int
		for _, w := range truths {
			lengths = append(lengths, rounded(quad(m, w.where[a], w.where[b]), rule))
		}
		want := span(slices.Min(lengths), slices.Max(lengths))
		if got, e := lofts.Distance(m, a, b, rule); got != want || e != api.OK {
			t.Errorf("Distance of %d and %d by %d = %v, %d, not %v", a, b, rule, got, e, want)
		}
	}
}

func modelNearer(t *testing.T, m api.Map, truths []world, from, a, b int) {
	seen := map[int]int{}
	for _, w := range truths {
		seen[quad(m, w.where[from], w.where[a]).Cmp(quad(m, w.where[from], w.where[b]))]++
	}
	want := api.OpenWhich
	switch len(truths) {
	case seen[-1]:
		want = api.FirstNearer
	case seen[1]:
		want = api.SecondNearer
	case seen[0]:
		want = api.SameDistance
	}
	if got, e := lofts.Nearer(m, from, a, b); got != want || e != api.OK {
		t.Errorf("Nearer of %d, %d and %d = %d, %d, not %d", from, a, b, got, e, want)
	}
}

func modelWithin(t *testing.T, m api.Map, truths []world, from, reach int) {
	var always, sometimes []int
	for loft := range m.Lofts {
		near := 0
		for _, w := range truths {
			if rounded(quad(m, w.where[from], w.where[loft]), api.Down) <= reach {
				near++
			}
		}
		if loft != from && near == len(truths) {
			always = append(always, loft)
		} else if loft != from && near > 0 {
			sometimes = append(sometimes, loft)
		}
	}
	surely, maybe, e := lofts.Within(m, from, reach)
	if !slices.Equal(surely, always) || !slices.Equal(maybe, sometimes) || e != api.OK {
		t.Errorf("Within %d of %d = %v, %v, %d, not %v, %v", reach, from, surely, maybe, e, always, sometimes)
	}
}

// TestRounding: P2.2 and P2.11.
func TestRounding(t *testing.T) {
	for _, s := range []shape{small, large} {
		eachMap(t, s, func(r *rand.Rand, m api.Map, _ []api.Point) {
			a, b := randomPlace(r, m), randomPlace(r, m)
			q := quad(m, a, b)
			var by [3]int
			for _, rule := range rules {
				d, e := lofts.Length(m, a, b, rule)
				back, g := lofts.Length(m, b, a, rule)
				if d != rounded(q, rule) || e != api.OK || back != d || g != api.OK {
					t.Errorf("Length by %d = %d, %d, and back %d, %d", rule, d, e, back, g)
				}
				by[rule] = d
			}
			if by[api.Down] > by[api.Near] || by[api.Near] > by[api.Up] || by[api.Up] > by[api.Down]+1 {
				t.Errorf("the lengths are %v", by)
			}
			if twice(q, 2*by[api.Down]) < 0 || twice(q, 2*by[api.Up]) > 0 {
				t.Errorf("the lengths %v are beyond the root", by)
			}
		})
	}
}

// TestBackAgain: P2.11, lofts are as far from each other in both directions.
func TestBackAgain(t *testing.T) {
	eachMap(t, large, func(r *rand.Rand, m api.Map, _ []api.Point) {
		a, b, rule := r.Intn(m.Lofts), r.Intn(m.Lofts), r.Intn(3)
		there, e := lofts.Distance(m, a, b, rule)
		back, g := lofts.Distance(m, b, a, rule)
		if there != back || e != g {
			t.Errorf("Distance of %d and %d = %v, %d, and back %v, %d", a, b, there, e, back, g)
		}
	})
}

// TestEachTruth: P2.12, whatever places the lofts have, if few enough surveys are wrong.
func TestEachTruth(t *testing.T) {
	tested := 0
	eachMap(t, large, func(r *rand.Rand, m api.Map, where []api.Point) {
		wrong := wrongs(m, where)
		if n, _ := lofts.Fewest(m); n > len(wrong) {
			t.Errorf("Fewest = %d, and %v are wrong", n, wrong)
		}
		if len(wrong) > m.Wrong {
			return
		}
		tested++
		blame, _ := lofts.Blame(m)
		for _, i := range blame {
			if !slices.Contains(wrong, i) {
				t.Errorf("Blame = %v, but %v are wrong", blame, wrong)
			}
		}
		for loft, p := range where {
			if l, e := lofts.Places(m, loft); !slices.Contains(l, p) || e != api.OK {
				t.Errorf("Places of %d = %v, %d", loft, l, e)
			}
		}
		pairs(m, func(a, b int) { oneTruth(t, r, m, where, a, b) })
	})
	if tested < rounds/10 {
		t.Fatalf("only %d maps are tested", tested)
	}
}

// oneTruth tells whether what is said of two lofts fits to a truth.
func oneTruth(t *testing.T, r *rand.Rand, m api.Map, where []api.Point, a, b int) {
	for _, rule := range rules {
		d := rounded(quad(m, where[a], where[b]), rule)
		if s, e := lofts.Distance(m, a, b, rule); d < s.Low || d > s.High || e != api.OK {
			t.Errorf("Distance of %d and %d = %v, %d", a, b, s, e)
		}
	}
	from := r.Intn(m.Lofts)
	n, e := lofts.Nearer(m, from, a, b)
	so := map[int]int{-1: api.FirstNearer, 0: api.SameDistance, 1: api.SecondNearer}
	if n != so[quad(m, where[from], where[a]).Cmp(quad(m, where[from], where[b]))] && n != api.OpenWhich || e != api.OK {
		t.Errorf("Nearer of %d, %d and %d = %d, %d", from, a, b, n, e)
	}
}

// TestEnds: P2.13.
func TestEnds(t *testing.T) {
	eachMap(t, large, func(r *rand.Rand, m api.Map, _ []api.Point) {
		a, b, rule := r.Intn(m.Lofts), r.Intn(m.Lofts), r.Intn(3)
		s, e := lofts.Distance(m, a, b, rule)
		if e != api.OK {
			return
		}
		first, _ := lofts.Places(m, a)
		second, _ := lofts.Places(m, b)
		lengths := map[int]bool{}
		for _, p := range first {
			for _, q := range second {
				lengths[rounded(quad(m, p, q), rule)] = true
			}
		}
		if !lengths[s.Low] || !lengths[s.High] {
			t.Errorf("Distance of %d and %d = %v", a, b, s)
		}
	})
}

// expectMore checks that wherever a map has an answer, another one has at least as much that can be.
func expectMore(t *testing.T, less, more api.Map) {
	t.Helper()
	if !hasTruth(less) {
		return
	}
	for loft := range less.Lofts {
		few, _ := lofts.Places(less, loft)
		many, _ := lofts.Places(more, loft)
		for _, p := range few {
			if !slices.Contains(many, p) {
				t.Errorf("Places of %d = %v and %v", loft, few, many)
			}
		}
	}
	pairs(less, func(a, b int) {
		narrow, _ := lofts.Distance(less, a, b, api.Near)
		wide, _ := lofts.Distance(more, a, b, api.Near)
		if narrow.Low < wide.Low || narrow.High > wide.High {
			t.Errorf("Distance of %d and %d = %v and %v", a, b, narrow, wide)
		}
	})
}

// TestMoreKnown: P2.14.
func TestMoreKnown(t *testing.T) {
	for _, s := range []shape{small, large} {
		s.surveys--
		eachMap(t, s, func(r *rand.Rand, m api.Map, where []api.Point) {
			more := copied(m)
			more.Surveys = append(more.Surveys, randomSurvey(r, m, where))
			expectMore(t, more, m)
			if m.Wrong < api.MaxWrong {
				more = copied(m)
				more.Wrong++
				expectMore(t, m, more)
			}
		})
	}
}

// expectSame checks that two maps have the same answers of the places that a function renames.
func expectSame(t *testing.T, m, other api.Map, rename func(p api.Point) api.Point) {
	t.Helper()
	renamed := func(l []api.Point) []api.Point {
		out := slices.Clone(l)
		for i, p := range out {
			out[i] = rename(p)
		}
		return out
	}
	many, e := lofts.Many(m)
	others, g := lofts.Many(other)
	fewest, _ := lofts.Fewest(m)
	least, _ := lofts.Fewest(other)
	if many != others || e != g || fewest != least {
		t.Errorf("Many = %d, %d, and %d, %d; Fewest = %d and %d", many, e, others, g, fewest, least)
	}
	if where, e := lofts.Show(m); e == api.OK && len(wrongs(other, renamed(where))) > other.Wrong {
		t.Errorf("Show = %v", where)
	}
	for loft := range m.Lofts {
		places, e := lofts.Places(m, loft)
		moved, g := lofts.Places(other, loft)
		byRow := func(p, q api.Point) int { return (p.Y-q.Y)*100 + p.X - q.X }
		if !slices.Equal(slices.SortedFunc(slices.Values(renamed(places)), byRow), moved) || e != g {
			t.Errorf("Places of %d = %v, %d, and %v, %d", loft, places, e, moved, g)
		}
	}
	for a := range m.Lofts {
		q := question{a: a, b: (a + 1) % m.Lofts, c: (a + 2) % m.Lofts, rule: api.Near, reach: m.North + m.East[0]}
		here, there := ask(m, q), ask(other, q)
		for _, function := range []string{"Distance", "Nearer", "Within"} {
			if !reflect.DeepEqual(here[function], there[function]) {
				t.Errorf("%s of %+v = %v and %v", function, q, here[function], there[function])
			}
		}
	}
}

// TestAnyOrder: P2.15, only what Blame returns goes along with the surveys.
func TestAnyOrder(t *testing.T) {
	for _, s := range []shape{small, large} {
		eachMap(t, s, func(r *rand.Rand, m api.Map, _ []api.Point) {
			other, to := copied(m), r.Perm(len(m.Surveys))
			for i, s := range m.Surveys {
				other.Surveys[to[i]] = s
			}
			expectSame(t, m, other, func(p api.Point) api.Point { return p })
			blame, e := lofts.Blame(m)
			moved, g := lofts.Blame(other)
			for k, i := range blame {
				blame[k] = to[i]
			}
			slices.Sort(blame)
			if !slices.Equal(blame, moved) || e != g {
				t.Errorf("Blame = %v, %d, and %v, %d", blame, e, moved, g)
			}
		})
	}
}

// mirrored numbers all columns of a map from the other end.
func mirrored(m api.Map) (api.Map, func(p api.Point) api.Point) {
	last := m.Columns - 1
	turn := func(p api.Point) api.Point { return at(last-p.X, p.Y) }
	m = copied(m)
	for i, s := range m.Surveys {
		if s.Kind == api.Box {
			m.Surveys[i].X = span(last-s.X.High, last-s.X.Low)
		} else {
			m.Surveys[i].At = turn(s.At)
		}
	}
	return m, turn
}

// TestMirrored: P2.16.
func TestMirrored(t *testing.T) {
	for _, s := range []shape{small, large} {
		eachMap(t, s, func(r *rand.Rand, m api.Map, _ []api.Point) {
			other, turn := mirrored(m)
			expectSame(t, m, other, turn)
			p, q, rule := randomPlace(r, m), randomPlace(r, m), r.Intn(3)
			here, e := lofts.Length(m, p, q, rule)
			there, g := lofts.Length(other, turn(p), turn(q), rule)
			if here != there || e != g {
				t.Errorf("Length of %v and %v = %d, %d, and %d, %d", p, q, here, e, there, g)
			}
		})
	}
}

// TestLiars: P2.17, and P2.4 for each Wrong.
func TestLiars(t *testing.T) {
	for _, s := range []shape{small, large} {
		eachMap(t, s, func(_ *rand.Rand, m api.Map, _ []api.Point) {
			fewest, e := lofts.Fewest(m)
			if hasTruth(m) != (fewest <= m.Wrong) || e != api.OK {
				t.Errorf("Fewest = %d, %d", fewest, e)
			}
			for i := range m.Surveys {
				less := copied(m)
				less.Surveys = slices.Delete(less.Surveys, i, i+1)
				if n, e := lofts.Fewest(less); n > fewest || n < fewest-1 || e != api.OK {
					t.Errorf("Fewest = %d, and %d, %d without %d", fewest, n, e, i)
				}
			}
			for wrong := range api.MaxWrong + 1 {
				other := copied(m)
				other.Wrong = wrong
				if n, e := lofts.Fewest(other); n != fewest || e != api.OK {
					t.Errorf("Fewest = %d, and %d, %d with Wrong %d", fewest, n, e, wrong)
				}
			}
		})
	}
}

// TestLargerEarth: P2.18, with boxes alone, which say the same on a larger earth.
func TestLargerEarth(t *testing.T) {
	s := large
	s.scale /= 7
	eachMap(t, s, func(r *rand.Rand, m api.Map, _ []api.Point) {
		m.Surveys = slices.DeleteFunc(copied(m).Surveys, func(s api.Survey) bool { return s.Kind != api.Box })
		times := 1 + r.Intn(7)
		other := copied(m)
		other.North *= times
		for y := range other.East {
			other.East[y] *= times
		}
		p, q := randomPlace(r, m), randomPlace(r, m)
		for _, rule := range rules {
			d, e := lofts.Length(m, p, q, rule)
			far, g := lofts.Length(other, p, q, rule)
			exact := rounded(new(big.Int).Mul(quad(m, p, q), big.NewInt(int64(times*times))), rule)
			if far != exact || rule == api.Down && far < times*d || rule == api.Up && far > times*d || e != g {
				t.Errorf("Length of %v and %v by %d = %d, %d, and %d, %d for %d", p, q, rule, d, e, far, g, times)
			}
		}
		a, b, c := r.Intn(m.Lofts), r.Intn(m.Lofts), r.Intn(m.Lofts)
		d, _ := lofts.Distance(m, a, b, api.Down)
		far, _ := lofts.Distance(other, a, b, api.Down)
		here, e := lofts.Nearer(m, a, b, c)
		there, g := lofts.Nearer(other, a, b, c)
		if far.Low < times*d.Low || far.High < times*d.High || here != there || e != g {
			t.Errorf("Distance = %v and %v for %d; Nearer = %d, %d, and %d, %d", d, far, times, here, e, there, g)
		}
	})
}
