package owners_test

import (
	"fmt"
	"math/rand"
	"reflect"
	"slices"
	"testing"

	"squeaker/api"
	"squeaker/owners"
)

const rounds = 300

// eachStud gives a test many studs, always the same ones; a good part of them has several truths, or an idle deed.
func eachStud(t *testing.T, test func(r *rand.Rand, s api.Stud)) {
	t.Helper()
	r := rand.New(rand.NewSource(3))
	several, idle := 0, 0
	for range rounds {
		s := randomStud(r)
		if e := owners.Check(s); e != api.OK {
			t.Fatalf("Check has the error %d of %+v", e, s)
		}
		if n, _ := owners.Truths(s, api.MaxDay); n > 1 {
			several++
		}
		if _, may, _ := owners.Idle(s); len(may) > 0 {
			idle++
		}
		before := copied(s)
		test(r, s)
		if !reflect.DeepEqual(before, s) {
			t.Errorf("the stud is changed")
		}
		if t.Failed() {
			t.Fatalf("the stud: %+v", before)
		}
	}
	if several < rounds/4 || idle < rounds/4 {
		t.Fatalf("of %d studs %d have several truths, and %d an idle deed", rounds, several, idle)
	}
}

// eachDay calls a function for each day on which something can happen, the last one, and one between.
func eachDay(call func(day int)) {
	for day := range lastDay + 1 {
		call(day)
	}
	call(api.MaxDay)
}

// answers returns what a stud answers to all questions about the days up to one, and if it is the last one, which
// deeds are idle.
func answers(s api.Stud, last int) map[string]outcome {
	out := map[string]outcome{}
	put := func(name string, day, n int, e api.Errno, results ...any) {
		for i := range results {
			results[i] = tidy(results[i])
		}
		out[fmt.Sprint(name, " of ", n, " on ", day)] = outcome{results, e}
	}
	eachDay(func(day int) {
		if day > last {
			return
		}
		n, e := owners.Truths(s, day)
		put("Truths", day, 0, e, n)
		for bird := range s.Flock.Birds {
			all, e := owners.Owners(s, day, bird)
			put("Owners", day, bird, e, all)
			one, e := owners.Owner(s, day, bird)
			put("Owner", day, bird, e, one)
		}
		for member := range lastMember + 1 {
			sure, may, e := owners.Birds(s, day, member)
			put("Birds", day, member, e, sure, may)
		}
		for ring := range lastRing + 1 {
			all, e := owners.Ring(s, day, ring)
			put("Ring", day, ring, e, all)
		}
	})
	if last == api.MaxDay {
		sure, may, e := owners.Idle(s)
		put("Idle", 0, 0, e, sure, may)
	}
	return out
}

// expectSame checks that two studs answer the same to all questions about the days up to one.
func expectSame(t *testing.T, name string, a, b api.Stud, last int) {
	t.Helper()
	was, is := answers(a, last), answers(b, last)
	for question := range was {
		if !reflect.DeepEqual(was[question], is[question]) {
			t.Errorf("%s: %s = %v, and was %v", name, question, is[question], was[question])
		}
	}
}

// TestModel: P3.3 to P3.8, everything is what the definitions say, way by way.
func TestModel(t *testing.T) {
	eachStud(t, func(_ *rand.Rand, s api.Stud) {
		all := ways(s)
		sure, may, e := owners.Idle(s)
		if wantSure, wantMay := modelIdle(s, all); !slices.Equal(sure, wantSure) || !slices.Equal(may, wantMay) || e != api.OK {
			t.Errorf("Idle = %v, %v, %d, not %v, %v", sure, may, e, wantSure, wantMay)
		}
		eachDay(func(day int) {
			truths := after(s, all, day)
			if n, e := owners.Truths(s, day); n != len(truths) || e != api.OK {
				t.Errorf("Truths of %d = %d, %d, not %d", day, n, e, len(truths))
			}
			for bird := range s.Flock.Birds {
				modelOwners(t, s, truths, day, bird)
			}
			for member := range lastMember + 1 {
				modelBirds(t, s, truths, day, member)
			}
			for ring := range lastRing + 1 {
				modelRing(t, s, truths, day, ring)
			}
		})
	})
}

func modelOwners(t *testing.T, s api.Stud, truths [][]int, day, bird int) {
	var want []int
	for _, o := range truths {
		want = append(want, o[bird])
	}
	want = ordered(want)
	if got, e := owners.Owners(s, day, bird); !slices.Equal(got, want) || e != api.OK {
		t.Errorf("Owners of %d on %d = %v, %d, not %v", bird, day, got, e, want)
	}
	one, e := owners.Owner(s, day, bird)
	if len(want) == 1 && (one != want[0] || e != api.OK) || len(want) > 1 && (one != 0 || e != api.ErrNone) {
		t.Errorf("Owner of %d on %d = %d, %d, of %v", bird, day, one, e, want)
	}
}

func modelBirds(t *testing.T, s api.Stud, truths [][]int, day, member int) {
	var wantSure, wantMay []int
	for bird := range s.Flock.Birds {
		owned := 0
		for _, o := range truths {
			if o[bird] == member {
				owned++
			}
		}
		if owned > 0 {
			wantMay = append(wantMay, bird)
		}
		if owned == len(truths) {
			wantSure = append(wantSure, bird)
		}
	}
	if sure, may, e := owners.Birds(s, day, member); !slices.Equal(sure, wantSure) || !slices.Equal(may, wantMay) || e != api.OK {
		t.Errorf("Birds of %d on %d = %v, %v, %d, not %v, %v", member, day, sure, may, e, wantSure, wantMay)
	}
}

func modelRing(t *testing.T, s api.Stud, truths [][]int, day, ring int) {
	var want []int
	for _, o := range truths {
		for bird, b := range s.Flock.Birds {
			if b.Ring == ring {
				want = append(want, o[bird])
			}
		}
	}
	if got, e := owners.Ring(s, day, ring); !slices.Equal(got, ordered(want)) || e != api.OK {
		t.Errorf("Ring of %d on %d = %v, %d, not %v", ring, day, got, e, ordered(want))
	}
}

// TestOneOwner: P3.9.
func TestOneOwner(t *testing.T) {
	eachStud(t, func(_ *rand.Rand, s api.Stud) {
		all := ways(s)
		eachDay(func(day int) {
			for _, o := range after(s, all, day) {
				for bird, owner := range o {
					may, _ := owners.Owners(s, day, bird)
					sure, e := owners.Owner(s, day, bird)
					if !slices.Contains(may, owner) || e == api.OK && sure != owner {
						t.Errorf("Owners of %d on %d = %v, Owner = %d, %d, not %d", bird, day, may, sure, e, owner)
					}
				}
			}
		})
	})
}

// TestAnyOrder: P3.10.
func TestAnyOrder(t *testing.T) {
	eachStud(t, func(r *rand.Rand, s api.Stud) {
		mixed := copied(s)
		if len(s.Deeds) > 0 {
			mixed.Deeds = append(mixed.Deeds, s.Deeds[r.Intn(len(s.Deeds))])
		}
		if len(s.Voided) > 0 {
			mixed.Voided = append(mixed.Voided, s.Voided[r.Intn(len(s.Voided))])
		}
		shuffle(r, mixed)
		expectSame(t, "mixed", s, mixed, api.MaxDay)
		merged, e := owners.Merge(s, nil, nil)
		if other, f := owners.Merge(mixed, nil, nil); !sameStud(merged, other) || e != api.OK || f != api.OK {
			t.Errorf("Merge = %v, %d, and of the mixed one %v, %d", merged, e, other, f)
		}
		expectSame(t, "merged", s, merged, api.MaxDay)
		for range 3 {
			if late := mergedInParts(t, r, s); !sameStud(merged, late) {
				t.Errorf("Merge = %v, and part by part %v", merged, late)
			}
		}
		eachDay(func(day int) {
			early := copied(s)
			early.Deeds = slices.DeleteFunc(early.Deeds, func(d api.Deed) bool { return d.Day > day })
			if day < api.MaxDay {
				expectSame(t, "early", s, early, day)
			}
		})
	})
}

// mergedInParts merges all deeds and recalls of a stud into it without them, in random parts, some of which overlap.
func mergedInParts(t *testing.T, r *rand.Rand, s api.Stud) api.Stud {
	t.Helper()
	mixed := copied(s)
	shuffle(r, mixed)
	now := copied(s)
	now.Deeds, now.Voided = nil, nil
	d, v := 0, 0
	for d < len(mixed.Deeds) || v < len(mixed.Voided) {
		toD, toV := min(len(mixed.Deeds), d+r.Intn(4)), min(len(mixed.Voided), v+r.Intn(3))
		next, e := owners.Merge(now, mixed.Deeds[max(0, d-r.Intn(3)):toD], mixed.Voided[max(0, v-r.Intn(2)):toV])
		if e != api.OK {
			t.Errorf("Merge has the error %d", e)
			return now
		}
		now, d, v = next, toD, toV
	}
	return now
}

// sameStud tells whether two studs are equal, nil and empty slices too.
func sameStud(a, b api.Stud) bool {
	return slices.EqualFunc(a.Flock.Birds, b.Flock.Birds, func(x, y api.Bird) bool {
		return x.Ring == y.Ring && x.Sex == y.Sex && x.Born == y.Born && slices.Equal(x.Sires, y.Sires) && slices.Equal(x.Dams, y.Dams)
	}) && slices.Equal(a.Firsts, b.Firsts) && slices.Equal(a.Deeds, b.Deeds) && slices.Equal(a.Voided, b.Voided)
}

// TestNoDoubt: P3.11.
func TestNoDoubt(t *testing.T) {
	r := rand.New(rand.NewSource(4))
	passed := 0
	for range rounds {
		s := randomStud(r)
		for i := range s.Flock.Birds {
			s.Flock.Birds[i].Ring = i
		}
		eachDay(func(day int) {
			if n, e := owners.Truths(s, day); n != 1 || e != api.OK {
				t.Errorf("Truths of %d = %d, %d, of %+v", day, n, e, s)
			}
			for bird := range s.Flock.Birds {
				one, e := owners.Owner(s, day, bird)
				if e != api.OK {
					t.Errorf("Owner of %d on %d = %d, %d, of %+v", bird, day, one, e, s)
				}
				if one != s.Firsts[bird] {
					passed++
				}
			}
		})
	}
	if passed < rounds {
		t.Errorf("only %d times a bird had another owner than at first", passed)
	}
}

// TestWhoHolds: P3.12.
func TestWhoHolds(t *testing.T) {
	eachStud(t, func(_ *rand.Rand, s api.Stud) {
		eachDay(func(day int) {
			ringed := map[int][]int{}
			for bird, b := range s.Flock.Birds {
				all, _ := owners.Owners(s, day, bird)
				ringed[b.Ring] = append(ringed[b.Ring], all...)
				for member := range lastMember + 1 {
					sure, may, _ := owners.Birds(s, day, member)
					alone := slices.Equal(all, []int{member})
					if slices.Contains(sure, bird) != alone || slices.Contains(may, bird) != slices.Contains(all, member) {
						t.Errorf("Birds of %d on %d = %v, %v, Owners of %d = %v", member, day, sure, may, bird, all)
					}
				}
			}
			for ring := range lastRing + 1 {
				if got, _ := owners.Ring(s, day, ring); !slices.Equal(got, ordered(ringed[ring])) {
					t.Errorf("Ring of %d on %d = %v, Owners are %v", ring, day, got, ringed[ring])
				}
			}
		})
	})
}

// TestIdleDeed: P3.13.
func TestIdleDeed(t *testing.T) {
	eachStud(t, func(_ *rand.Rand, s api.Stud) {
		sure, _, _ := owners.Idle(s)
		for _, id := range sure {
			eachDay(func(day int) {
				for bird := range s.Flock.Birds {
					a, _ := owners.Owners(s, day, bird)
					b, e := owners.Owners(without(s, id), day, bird)
					if !slices.Equal(a, b) || e != api.OK {
						t.Errorf("Owners of %d on %d = %v, and %v, %d without %d", bird, day, a, b, e, id)
					}
				}
			})
		}
	})
}

// without returns a stud without the deed with an Id.
func without(s api.Stud, id int) api.Stud {
	s = copied(s)
	s.Deeds = slices.DeleteFunc(s.Deeds, func(d api.Deed) bool { return d.Id == id })
	return s
}

// TestRecalled: P3.14.
func TestRecalled(t *testing.T) {
	eachStud(t, func(rnd *rand.Rand, s api.Stud) {
		for range 2 {
			id := rnd.Intn(lastId + 1)
			if len(s.Deeds) > 0 {
				id = s.Deeds[rnd.Intn(len(s.Deeds))].Id
			}
			r := copied(s)
			r.Voided = append(r.Voided, id)
			expectSame(t, "recalled", without(s, id), r, api.MaxDay)
			merged, e := owners.Merge(s, nil, []int{id})
			if e != api.OK {
				t.Errorf("Merge has the error %d", e)
			}
			expectSame(t, "recalled later", without(s, id), merged, api.MaxDay)
		}
	})
}
