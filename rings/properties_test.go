package rings_test

import (
	"math/big"
	"math/rand"
	"slices"
	"testing"

	"squeaker/api"
	"squeaker/rings"
)

const rounds = 400

// eachFlock gives a test many flocks of up to most birds, always the same ones; a good part of them has no truth or
// several.
func eachFlock(t *testing.T, most int, test func(r *rand.Rand, f api.Flock)) {
	t.Helper()
	r := rand.New(rand.NewSource(1))
	without, several := 0, 0
	for range rounds {
		f := randomFlock(r, most)
		many, e := rings.Many(f)
		if e != api.OK {
			t.Fatalf("Many has the error %d of %+v", e, f)
		}
		if many == 0 {
			without++
		}
		if many > 1 {
			several++
		}
		test(r, f)
		if t.Failed() {
			t.Fatalf("the flock: %+v", f)
		}
	}
	if without < rounds/20 || several < rounds/4 {
		t.Fatalf("of %d flocks %d have no truth, and %d have several", rounds, without, several)
	}
}

// couples calls a function for each cock and each hen.
func couples(f api.Flock, call func(cock, hen int)) {
	for c := range f.Birds {
		for h := range f.Birds {
			if f.Birds[c].Sex == api.Cock && f.Birds[h].Sex == api.Hen {
				call(c, h)
			}
		}
	}
}

// TestModel: P1.3 to P1.11, everything is what the definitions say, truth by truth.
func TestModel(t *testing.T) {
	eachFlock(t, 7, func(_ *rand.Rand, f api.Flock) {
		all := worlds(f)
		many, e := rings.Many(f)
		if many != len(all) || e != api.OK {
			t.Errorf("Many = %d, %d, not %d", many, e, len(all))
		}
		sires, dams, e := rings.Show(f)
		shown := func(w world) bool { return slices.Equal(w.sires, sires) && slices.Equal(w.dams, dams) }
		if len(all) == 0 {
			if e != api.ErrNone {
				t.Errorf("Show has the error %d", e)
			}
			return
		}
		if e != api.OK || !slices.ContainsFunc(all, shown) {
			t.Errorf("Show = %v, %v, %d", sires, dams, e)
		}
		for i := range f.Birds {
			modelParents(t, f, all, i)
			modelBirths(t, f, all, i)
			low, high, e := rings.Inbred(f, i)
			modelKinship(t, all, low, high, e, func(w world) *big.Rat { return w.kinship(w.sires[i], w.dams[i]) })
			for j := range f.Birds {
				modelAncestor(t, f, all, i, j)
			}
		}
		couples(f, func(c, h int) {
			low, high, e := rings.Chick(f, c, h)
			modelKinship(t, all, low, high, e, func(w world) *big.Rat { return w.kinship(c, h) })
		})
	})
}

func modelParents(t *testing.T, f api.Flock, all []world, bird int) {
	var fathers, mothers []int
	for _, w := range all {
		fathers = append(fathers, w.sires[bird])
		mothers = append(mothers, w.dams[bird])
	}
	tidy := func(l []int) []int {
		slices.Sort(l)
		return slices.DeleteFunc(slices.Compact(l), func(p int) bool { return p < 0 })
	}
	sires, dams, e := rings.Parents(f, bird)
	if e != api.OK || !slices.Equal(sires, tidy(fathers)) || !slices.Equal(dams, tidy(mothers)) {
		t.Errorf("Parents of %d = %v, %v, %d", bird, sires, dams, e)
	}
}

func modelBirths(t *testing.T, f api.Flock, all []world, bird int) {
	var years []int
	for _, w := range all {
		for _, y := range w.years {
			years = append(years, y[bird])
		}
	}
	got, e := rings.Births(f, bird)
	if e != api.OK || got != span(slices.Min(years), slices.Max(years)) {
		t.Errorf("Births of %d = %v, %d", bird, got, e)
	}
}

func modelAncestor(t *testing.T, f api.Flock, all []world, old, young int) {
	so := 0
	for _, w := range all {
		if w.ancestor(old, young) {
			so++
		}
	}
	want := api.Perhaps
	if so == 0 {
		want = api.Never
	} else if so == len(all) {
		want = api.Surely
	}
	if got, e := rings.Ancestor(f, old, young); got != want || e != api.OK {
		t.Errorf("Ancestor of %d and %d = %d, %d, not %d", old, young, got, e, want)
	}
}

func modelKinship(t *testing.T, all []world, low, high api.Frac, e api.Errno, kinship func(w world) *big.Rat) {
	least, greatest := kinship(all[0]), kinship(all[0])
	for _, w := range all {
		k := kinship(w)
		if k.Cmp(least) < 0 {
			least = k
		}
		if k.Cmp(greatest) > 0 {
			greatest = k
		}
	}
	if e != api.OK || !inLowestTerms(low) || !inLowestTerms(high) || rat(low).Cmp(least) != 0 || rat(high).Cmp(greatest) != 0 {
		t.Errorf("a kinship = %v, %v, %d, not %v, %v", low, high, e, least, greatest)
	}
}

// TestEachPedigree: P1.10.
func TestEachPedigree(t *testing.T) {
	eachFlock(t, 6, func(_ *rand.Rand, f api.Flock) {
		for _, w := range worlds(f) {
			for i := range f.Birds {
				sires, dams, _ := rings.Parents(f, i)
				if s, d := w.sires[i], w.dams[i]; s >= 0 && !slices.Contains(sires, s) || d >= 0 && !slices.Contains(dams, d) {
					t.Errorf("Parents of %d = %v, %v", i, sires, dams)
				}
				low, high, _ := rings.Inbred(f, i)
				if k := w.kinship(w.sires[i], w.dams[i]); k.Cmp(rat(low)) < 0 || k.Cmp(rat(high)) > 0 {
					t.Errorf("Inbred of %d = %v, %v", i, low, high)
				}
				for j := range f.Birds {
					kind, _ := rings.Ancestor(f, i, j)
					if so := w.ancestor(i, j); so && kind == api.Never || !so && kind == api.Surely || i == j && kind != api.Never {
						t.Errorf("Ancestor of %d and %d = %d", i, j, kind)
					}
				}
			}
		}
	})
}

// TestEnds: P1.11.
func TestEnds(t *testing.T) {
	eachFlock(t, 10, func(_ *rand.Rand, f api.Flock) {
		sires, dams, e := rings.Show(f)
		if e != api.OK {
			return
		}
		g := copied(f)
		for i := range g.Birds {
			g.Birds[i].Sires, g.Birds[i].Dams = only(sires[i]), only(dams[i])
			if len(f.Birds[i].Sires) > 0 && sires[i] < 0 || len(f.Birds[i].Dams) > 0 && dams[i] < 0 {
				t.Errorf("Show = %v, %v", sires, dams)
			}
		}
		expectTruth(t, g)
		for i := range f.Birds {
			fathers, mothers, _ := rings.Parents(f, i)
			for _, p := range fathers {
				g := copied(f)
				g.Birds[i].Sires = []int{p}
				expectTruth(t, g)
			}
			for _, p := range mothers {
				g := copied(f)
				g.Birds[i].Dams = []int{p}
				expectTruth(t, g)
			}
		}
	})
}

func only(parent int) []int {
	if parent < 0 {
		return nil
	}
	return []int{parent}
}

func expectTruth(t *testing.T, f api.Flock) {
	if n, e := rings.Many(f); n == 0 || e != api.OK {
		t.Errorf("Many = %d, %d, of %+v", n, e, f)
	}
}

// TestMoreKnown: P1.12.
func TestMoreKnown(t *testing.T) {
	eachFlock(t, 7, func(r *rand.Rand, f api.Flock) {
		for i, b := range f.Birds {
			if len(b.Sires) > 1 {
				g := copied(f)
				at := r.Intn(len(b.Sires))
				g.Birds[i].Sires = slices.Delete(g.Birds[i].Sires, at, at+1)
				expectNarrower(t, f, g)
			}
			if len(b.Dams) > 1 {
				g := copied(f)
				at := r.Intn(len(b.Dams))
				g.Birds[i].Dams = slices.Delete(g.Birds[i].Dams, at, at+1)
				expectNarrower(t, f, g)
			}
			if b.Born.Low < b.Born.High {
				g, h := copied(f), copied(f)
				g.Birds[i].Born.Low++
				h.Birds[i].Born.High--
				expectNarrower(t, f, g)
				expectNarrower(t, f, h)
			}
		}
	})
}

// expectNarrower checks that g, of which more is known than of f, leaves no more open.
func expectNarrower(t *testing.T, f, g api.Flock) {
	before, _ := rings.Many(f)
	after, e := rings.Many(g)
	if after > before || e != api.OK {
		t.Errorf("Many = %d, and was %d", after, before)
	}
	if after == 0 {
		return
	}
	for i := range f.Birds {
		sires, dams, _ := rings.Parents(f, i)
		fewSires, fewDams, _ := rings.Parents(g, i)
		missing := func(all []int) func(int) bool {
			return func(p int) bool { return !slices.Contains(all, p) }
		}
		if slices.ContainsFunc(fewSires, missing(sires)) || slices.ContainsFunc(fewDams, missing(dams)) {
			t.Errorf("Parents of %d = %v, %v, and were %v, %v", i, fewSires, fewDams, sires, dams)
		}
		wide, _ := rings.Births(f, i)
		narrow, _ := rings.Births(g, i)
		if narrow.Low < wide.Low || narrow.High > wide.High {
			t.Errorf("Births of %d = %v, and were %v", i, narrow, wide)
		}
		low, high, _ := rings.Inbred(f, i)
		nearLow, nearHigh, _ := rings.Inbred(g, i)
		expectWithin(t, low, high, nearLow, nearHigh)
		for j := range f.Birds {
			kind, _ := rings.Ancestor(f, i, j)
			if now, _ := rings.Ancestor(g, i, j); kind != api.Perhaps && now != kind {
				t.Errorf("Ancestor of %d and %d = %d, and was %d", i, j, now, kind)
			}
		}
	}
	couples(f, func(c, h int) {
		low, high, _ := rings.Chick(f, c, h)
		nearLow, nearHigh, _ := rings.Chick(g, c, h)
		expectWithin(t, low, high, nearLow, nearHigh)
	})
}

func expectWithin(t *testing.T, low, high, nearLow, nearHigh api.Frac) {
	if rat(nearLow).Cmp(rat(low)) < 0 || rat(nearHigh).Cmp(rat(high)) > 0 {
		t.Errorf("bounds are %v, %v, and were %v, %v", nearLow, nearHigh, low, high)
	}
}

// TestInbreeding: P1.13.
func TestInbreeding(t *testing.T) {
	zero, one := frac(0, 1), big.NewRat(1, 1)
	eachFlock(t, 10, func(_ *rand.Rand, f api.Flock) {
		if n, _ := rings.Many(f); n == 0 {
			return
		}
		possible := func(low, high api.Frac) bool {
			return rat(low).Sign() >= 0 && rat(low).Cmp(rat(high)) <= 0 && rat(high).Cmp(one) < 0
		}
		for i, b := range f.Birds {
			low, high, e := rings.Inbred(f, i)
			if e != api.OK || !possible(low, high) {
				t.Errorf("Inbred of %d = %v, %v, %d", i, low, high, e)
			}
			if (len(b.Sires) == 0 || len(b.Dams) == 0) && (low != zero || high != zero) {
				t.Errorf("Inbred of %d = %v, %v", i, low, high)
			}
			if len(b.Sires) == 1 && len(b.Dams) == 1 {
				chickLow, chickHigh, _ := rings.Chick(f, b.Sires[0], b.Dams[0])
				if low != chickLow || high != chickHigh {
					t.Errorf("Inbred of %d = %v, %v, Chick of its parents = %v, %v", i, low, high, chickLow, chickHigh)
				}
			}
		}
		couples(f, func(c, h int) {
			low, high, e := rings.Chick(f, c, h)
			if e != api.OK || !possible(low, high) {
				t.Errorf("Chick of %d and %d = %v, %v, %d", c, h, low, high, e)
			}
			if !maybeRelated(f, c, h) && (low != zero || high != zero) {
				t.Errorf("Chick of %d and %d = %v, %v", c, h, low, high)
			}
		})
	})
}

// maybeRelated tells whether some bird can be an ancestor of both, or one of them of the other one.
func maybeRelated(f api.Flock, a, b int) bool {
	can := func(old, young int) bool {
		kind, _ := rings.Ancestor(f, old, young)
		return old == young || kind != api.Never
	}
	for i := range f.Birds {
		if can(i, a) && can(i, b) {
			return true
		}
	}
	return false
}

// TestNumbers: P1.14.
func TestNumbers(t *testing.T) {
	eachFlock(t, 8, func(r *rand.Rand, f api.Flock) {
		to := r.Perm(len(f.Birds))
		renamed := func(l []int) []int {
			var out []int
			for _, i := range l {
				out = append(out, to[i])
			}
			slices.Sort(out)
			return out
		}
		g := copied(f)
		for i, b := range f.Birds {
			b.Sires, b.Dams = renamed(b.Sires), renamed(b.Dams)
			g.Birds[to[i]] = b
		}
		a, _ := rings.Doubled(f)
		b, e := rings.Doubled(g)
		m, _ := rings.Many(f)
		n, _ := rings.Many(g)
		if !slices.Equal(a, b) || e != api.OK || m != n {
			t.Errorf("Doubled = %v and %v, %d; Many = %d and %d", a, b, e, m, n)
		}
		if m == 0 {
			return
		}
		for i := range f.Birds {
			sires, dams, _ := rings.Parents(f, i)
			newSires, newDams, _ := rings.Parents(g, to[i])
			if !slices.Equal(renamed(sires), newSires) || !slices.Equal(renamed(dams), newDams) {
				t.Errorf("Parents of %d = %v, %v and %v, %v", i, sires, dams, newSires, newDams)
			}
			for j := range f.Birds {
				expectSame(t, ask(f, i, j), ask(g, to[i], to[j]), "Ancestor", "Births", "Inbred", "Chick")
			}
		}
	})
}

// expectSame checks that some functions had the same outcomes.
func expectSame(t *testing.T, a, b map[string]outcome, functions ...string) {
	for _, name := range functions {
		if !slices.Equal(a[name].results, b[name].results) || a[name].e != b[name].e {
			t.Errorf("%s = %v and %v", name, a[name], b[name])
		}
	}
}

// TestOneMoreChick: P1.15.
func TestOneMoreChick(t *testing.T) {
	eachFlock(t, 6, func(_ *rand.Rand, f api.Flock) {
		couples(f, func(c, h int) {
			g := copied(f)
			chick := api.Bird{Ring: api.MaxRing, Sex: api.Hen, Born: span(50, 60), Sires: []int{c}, Dams: []int{h}}
			g.Birds = append(g.Birds, chick)
			a, _ := rings.Doubled(f)
			if b, _ := rings.Doubled(g); !slices.Equal(a, b) {
				t.Errorf("Doubled = %v and %v", a, b)
			}
			for i := range f.Birds {
				expectSame(t, ask(f, i, h), ask(g, i, h), "Many", "Ancestor", "Births", "Inbred", "Chick")
				sires, dams, _ := rings.Parents(f, i)
				newSires, newDams, _ := rings.Parents(g, i)
				if !slices.Equal(sires, newSires) || !slices.Equal(dams, newDams) {
					t.Errorf("Parents of %d changed", i)
				}
			}
			low, high, e := rings.Chick(f, c, h)
			newLow, newHigh, newE := rings.Inbred(g, len(f.Birds))
			if low != newLow || high != newHigh || e != newE {
				t.Errorf("Inbred = %v, %v, %d; Chick = %v, %v, %d", newLow, newHigh, newE, low, high, e)
			}
		})
	})
}
