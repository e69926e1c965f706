package baskets_test

import (
	"math/rand"
	"reflect"
	"slices"
	"testing"

	"squeaker/api"
	"squeaker/baskets"
)

const rounds = 1500

// eachConvoy gives a test many convoys, always the same ones; a good part of them has broken periods, and another one
// has baskets that somebody opened though nobody found it.
func eachConvoy(t *testing.T, test func(r *rand.Rand, c api.Convoy, openings []opening)) {
	t.Helper()
	r := rand.New(rand.NewSource(5))
	broken, unseen := 0, 0
	for range rounds {
		c, openings := randomConvoy(r)
		if e := baskets.Check(c); e != api.OK {
			t.Fatalf("Check has the error %d of %+v", e, c)
		}
		if n, _ := baskets.Fewest(c); n > 0 {
			broken++
		}
		if slices.ContainsFunc(openings, func(o opening) bool { return !o.found }) {
			unseen++
		}
		before := c
		before.Acts, before.Duties = slices.Clone(c.Acts), slices.Clone(c.Duties)
		test(r, c, openings)
		if !reflect.DeepEqual(before, c) {
			t.Errorf("the convoy is changed")
		}
		if t.Failed() {
			t.Fatalf("the convoy: %+v, openings: %v", before, openings)
		}
	}
	if broken < rounds/4 || unseen < rounds/6 {
		t.Fatalf("of %d convoys %d have broken periods, and %d openings that nobody found", rounds, broken, unseen)
	}
}

// opened returns all minutes in which somebody can have opened a basket.
func opened(t *testing.T, c api.Convoy, basket int) []int {
	t.Helper()
	spans, e := baskets.Openings(c, basket)
	if e != api.OK {
		t.Errorf("Openings has the error %d", e)
	}
	return minutesOf(spans)
}

// inside returns the birds that are in a basket after a minute.
func inside(t *testing.T, c api.Convoy, minute, basket int) []int {
	t.Helper()
	birds, e := baskets.Inside(c, minute, basket)
	if e != api.OK {
		t.Errorf("Inside has the error %d", e)
	}
	return birds
}

// TestModel: P5.2 to P5.9, everything is what the definitions say, minute by minute.
func TestModel(t *testing.T) {
	eachConvoy(t, func(r *rand.Rand, c api.Convoy, _ []opening) {
		modelBirds(t, c)
		modelSeals(t, c)
		modelAlone(t, c)
		modelMarked(t, r, c)
	})
}

func modelBirds(t *testing.T, c api.Convoy) {
	acts := happening(c)
	for minute := range c.End + 2 {
		past := slices.DeleteFunc(slices.Clone(acts), func(a api.Act) bool { return a.At > minute })
		in := make([][]int, c.Baskets)
		for bird := range c.Birds {
			want := basketOf(past, bird)
			if want >= 0 {
				in[want] = append(in[want], bird)
			}
			if n, e := baskets.Where(c, minute, bird); n != want || e != api.OK {
				t.Errorf("Where of %d at %d = %d, %d, not %d", bird, minute, n, e, want)
			}
		}
		for basket := range c.Baskets {
			if l := inside(t, c, minute, basket); !slices.Equal(l, in[basket]) {
				t.Errorf("Inside of %d at %d = %v, not %v", basket, minute, l, in[basket])
			}
		}
	}
}

func modelSeals(t *testing.T, c api.Convoy) {
	minutes := make([][]int, c.Baskets)
	var broken, sure, may []int
	fewest := 0
	for _, s := range sealings(c) {
		can := openable(c, s)
		minutes[s.Basket] = append(minutes[s.Basket], can...)
		if s.broken() {
			fewest++
			broken = append(broken, s.Basket)
			sure = append(sure, s.birds...)
		}
		if len(can) > 0 {
			may = append(may, s.birds...)
		}
	}
	for basket := range c.Baskets {
		want := spansOf(minutes[basket])
		if l, e := baskets.Openings(c, basket); !slices.Equal(l, want) || e != api.OK {
			t.Errorf("Openings of %d = %v, %d, not %v", basket, l, e, want)
		}
	}
	if l, e := baskets.Broken(c); !slices.Equal(l, ordered(broken)) || e != api.OK {
		t.Errorf("Broken = %v, %d, not %v", l, e, broken)
	}
	if n, e := baskets.Fewest(c); n != fewest || e != api.OK {
		t.Errorf("Fewest = %d, %d, not %d", n, e, fewest)
	}
	if l, m, e := baskets.Struck(c); !slices.Equal(l, ordered(sure)) || !slices.Equal(m, ordered(may)) || e != api.OK {
		t.Errorf("Struck = %v, %v, %d, not %v, %v", l, m, e, sure, may)
	}
}

func modelAlone(t *testing.T, c api.Convoy) {
	wantError := api.ErrNone
	guards := map[int]int{}
	broken := 0
	for _, s := range sealings(c) {
		if !s.broken() {
			continue
		}
		broken++
		wantError = api.OK
		can := openable(c, s)
		for member := range api.MaxMember + 1 {
			if slices.ContainsFunc(c.Duties, func(d api.Duty) bool {
				return d.Member == member && d.Basket == s.Basket && slices.ContainsFunc(can, func(m int) bool { return d.From <= m && m <= d.To })
			}) {
				guards[member]++
			}
		}
	}
	var want []int
	for member, n := range guards {
		if n == broken {
			want = append(want, member)
		}
	}
	if l, e := baskets.Alone(c); !slices.Equal(l, ordered(want)) || e != wantError {
		t.Errorf("Alone = %v, %d, not %v, %d", l, e, want, wantError)
	}
}

func modelMarked(t *testing.T, r *rand.Rand, c api.Convoy) {
	members := r.Perm(lastMember + 2)[:r.Intn(lastMember+2)]
	var want []int
	for _, a := range c.Acts {
		if a.Kind == api.MarkIn && contains(members, []int{a.First, a.Second}) {
			want = append(want, a.Bird)
		}
	}
	if l, e := baskets.Marked(c, members); !slices.Equal(l, ordered(want)) || e != api.OK {
		t.Errorf("Marked of %v = %v, %d, not %v", members, l, e, want)
	}
}

// TestOutOfPlace: P5.1, acts are out of place, or clash, when the definitions say so.
func TestOutOfPlace(t *testing.T) {
	right, wrong := 0, 0
	eachConvoy(t, func(r *rand.Rand, c api.Convoy, _ []opening) {
		for range 20 * min(1, len(c.Acts)) {
			spoiled := c
			spoiled.Acts = slices.Clone(c.Acts)
			spoil(r, spoiled)
			want := api.ErrAct
			if inPlace(spoiled) {
				want = api.OK
				right++
			} else {
				wrong++
			}
			if e := baskets.Check(spoiled); e != want {
				t.Errorf("Check = %d, not %d, of %v", e, want, happening(spoiled))
			}
		}
	})
	if right < rounds || wrong < rounds {
		t.Errorf("%d are in their places, %d are not", right, wrong)
	}
}

// TestWhoeverOpens: P5.10.
func TestWhoeverOpens(t *testing.T) {
	eachConvoy(t, func(r *rand.Rand, c api.Convoy, openings []opening) {
		broken, e := baskets.Broken(c)
		sure, may, f := baskets.Struck(c)
		if e != api.OK || f != api.OK {
			t.Errorf("the errors %d, %d", e, f)
		}
		for _, o := range openings {
			birds := inside(t, c, o.minute, o.basket)
			if can := opened(t, c, o.basket); o.hidden && !slices.Contains(can, o.minute) {
				t.Errorf("Openings of %d = %v, and it was opened at %d", o.basket, can, o.minute)
			}
			if o.found && (!slices.Contains(broken, o.basket) || !contains(sure, birds)) {
				t.Errorf("Broken = %v, Struck = %v, and %d was found broken with %v", broken, sure, o.basket, birds)
			}
			if !contains(may, birds) {
				t.Errorf("Struck = %v, and %d was opened with %v", may, o.basket, birds)
			}
		}
	})
}

// TestNoOtherBird: P5.11.
func TestNoOtherBird(t *testing.T) {
	eachConvoy(t, func(r *rand.Rand, c api.Convoy, _ []opening) {
		sure, may, e := baskets.Struck(c)
		if e != api.OK || !contains(may, sure) {
			t.Errorf("Struck = %v, %v, %d", sure, may, e)
		}
		for basket := range c.Baskets {
			for _, minute := range opened(t, c, basket) {
				if birds := inside(t, c, minute, basket); !contains(may, birds) {
					t.Errorf("Struck = %v, and %v are in %d at %d", may, birds, basket, minute)
				}
			}
		}
	})
}

// TestOneMoreLook: P5.12.
func TestOneMoreLook(t *testing.T) {
	looks, less := 0, 0
	eachConvoy(t, func(r *rand.Rand, c api.Convoy, _ []opening) {
		all := sealings(c)
		id := r.Intn(api.MaxMember + 1)
		if len(all) == 0 || slices.ContainsFunc(c.Acts, func(a api.Act) bool { return a.Id == id }) || len(c.Acts) == api.MaxActs {
			return
		}
		s := all[r.Intn(len(all))]
		more := c
		more.Acts = append(slices.Clone(c.Acts), lookAt(id, s.At+r.Intn(c.End-s.At+1), s.Basket, s.Seal))
		if baskets.Check(more) != api.OK {
			return
		}
		looks++
		for basket := range c.Baskets {
			before, after := opened(t, c, basket), opened(t, more, basket)
			if !contains(before, after) {
				t.Errorf("Openings of %d = %v, and %v with one more look", basket, before, after)
			}
			less += len(before) - len(after)
		}
	})
	if looks < rounds/10 || less == 0 {
		t.Errorf("%d looks, and %d openings less", looks, less)
	}
}

// TestOneMoreGuard: P5.12.
func TestOneMoreGuard(t *testing.T) {
	more := 0
	eachConvoy(t, func(r *rand.Rand, c api.Convoy, _ []opening) {
		before, e := baskets.Alone(c)
		guarded := c
		from := r.Intn(c.End + 1)
		guarded.Duties = append(slices.Clone(c.Duties), duty(r.Intn(lastMember+1), r.Intn(c.Baskets), from, from+r.Intn(20)))
		after, f := baskets.Alone(guarded)
		if f != e || !contains(after, before) {
			t.Errorf("Alone = %v, %d, and %v, %d with one more guard", before, e, after, f)
		}
		more += len(after) - len(before)
	})
	if more == 0 {
		t.Errorf("nobody is more suspected")
	}
}

// TestAnyOrder: P5.13.
func TestAnyOrder(t *testing.T) {
	eachConvoy(t, func(r *rand.Rand, c api.Convoy, _ []opening) {
		other := c
		other.Acts, other.Duties = slices.Clone(c.Acts), slices.Clone(c.Duties)
		for range min(len(c.Acts), r.Intn(1+api.MaxActs-len(c.Acts))) {
			other.Acts = append(other.Acts, c.Acts[r.Intn(len(c.Acts))])
		}
		shuffle(r, other)
		for range 5 {
			q := question{r.Intn(c.End + 3), r.Intn(c.Baskets), r.Intn(c.Birds + 1), r.Perm(lastMember + 1)[:3]}
			if first, second := ask(c, q), ask(other, q); !reflect.DeepEqual(first, second) {
				t.Errorf("in another order: %v, and %v", first, second)
			}
		}
	})
}

// honest returns a convoy with another number for each sealing, which all looks see.
func honest(c api.Convoy) api.Convoy {
	acts := slices.Clone(c.Acts)
	for i, s := range sealings(c) {
		for j, a := range acts {
			if a == s.Act || slices.Contains(s.looks, a) {
				acts[j].Seal = 11 + i
			}
		}
	}
	c.Acts = acts
	return c
}

// TestSingleSeals: P5.14.
func TestSingleSeals(t *testing.T) {
	late := 0
	eachConvoy(t, func(r *rand.Rand, c api.Convoy, _ []opening) {
		c = honest(c)
		if n, e := baskets.Fewest(c); n != 0 || e != api.OK {
			t.Errorf("Fewest = %d, %d", n, e)
		}
		for _, s := range sealings(c) {
			can := opened(t, c, s.Basket)
			for _, minute := range s.minutes {
				if !slices.Contains(can, minute) {
					continue
				}
				late++
				if slices.ContainsFunc(s.looks, func(l api.Act) bool { return l.At > minute }) {
					t.Errorf("Openings of %d = %v, and the looks %v", s.Basket, can, s.looks)
				}
			}
		}
	})
	if late == 0 {
		t.Errorf("no basket can have been opened")
	}
}
