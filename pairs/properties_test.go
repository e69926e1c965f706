package pairs_test

import (
	"math/rand"
	"reflect"
	"slices"
	"testing"

	"squeaker/api"
	"squeaker/owners"
	"squeaker/pairs"
	"squeaker/rings"
)

const rounds = 600

// eachAviary gives a test many aviaries, always the same ones: of kin and of strangers.
func eachAviary(t *testing.T, test func(r *rand.Rand, a api.Aviary)) {
	t.Helper()
	r := rand.New(rand.NewSource(10))
	for i := range 2 * rounds {
		a := randomTable(r)
		if i%2 == 0 {
			a = randomAviary(r)
		}
		if e := pairs.Check(a); e != api.OK {
			t.Fatalf("Check has the error %d of %+v", e, a)
		}
		before := copied(a)
		test(r, a)
		if !reflect.DeepEqual(before, a) {
			t.Errorf("the aviary is changed")
		}
		if t.Failed() {
			t.Fatalf("the aviary: %+v", before)
		}
	}
}

// eachShed gives a test many sheds, always the same ones.
func eachShed(t *testing.T, test func(r *rand.Rand, s api.Shed)) {
	t.Helper()
	r := rand.New(rand.NewSource(11))
	for range rounds {
		s := randomShed(r)
		before := slices.Clone(s.Light)
		test(r, s)
		if !slices.Equal(before, s.Light) {
			t.Errorf("the shed is changed")
		}
		if t.Failed() {
			t.Fatalf("the shed: %+v", s)
		}
	}
}

// pairsOf returns what may be, and fails if there is an error.
func pairsOf(t *testing.T, a api.Aviary) []api.Match {
	t.Helper()
	may, e := pairs.Pairs(a)
	if e != api.OK {
		t.Fatalf("Pairs has the error %d: %+v", e, a)
	}
	return may
}

func mostOf(t *testing.T, a api.Aviary) int {
	t.Helper()
	most, e := pairs.Most(a)
	if e != api.OK {
		t.Fatalf("Most has the error %d: %+v", e, a)
	}
	return most
}

func mayOf(t *testing.T, a api.Aviary, cock, hen int) int {
	t.Helper()
	may, e := pairs.May(a, cock, hen)
	if e != api.OK {
		t.Fatalf("May has the error %d: %+v", e, a)
	}
	return may
}

// fewestOf returns how many days are darkened, more than there can be if that cannot be.
func fewestOf(t *testing.T, s api.Shed, day int) int {
	t.Helper()
	fewest, e := pairs.Fewest(s, day)
	if e == api.ErrNone {
		return api.MaxLights + 1
	}
	if e != api.OK {
		t.Fatalf("Fewest has the error %d: %+v", e, s)
	}
	return fewest
}

// moultOf returns the day on which the moult begins, one behind all days if it does not begin.
func moultOf(t *testing.T, s api.Shed) int {
	t.Helper()
	day, e := pairs.Moult(s)
	if e == api.ErrNone {
		return len(s.Light)
	}
	if e != api.OK {
		t.Fatalf("Moult has the error %d: %+v", e, s)
	}
	return day
}

// TestModel: P10.2 to P10.6, everything is what the definitions say, truth by truth and plan by plan.
func TestModel(t *testing.T) {
	kinds := map[int]int{}
	seen := map[string]int{}
	note := func(what string, is bool) {
		if is {
			seen[what]++
		}
	}
	eachAviary(t, func(_ *rand.Rand, a api.Aviary) {
		all := worlds(a.Flock)
		couples(a.Flock, func(cock, hen int) {
			want := modelMay(all, a.Limit, cock, hen)
			kinds[want]++
			expectMay(t, 0, a, cock, hen, want)
		})
		may := modelPairs(a, all)
		expectPairs(t, 0, a, may...)
		expectMost(t, 0, a, modelMost(may, a.Boxes))
		note("some matches that may not be", 0 < len(may) && len(may) < len(a.Matches))
		note("too few boxes", modelMost(may, a.Boxes) < modelMost(may, api.MaxBirds))
		note("a greater worth that is not paired", a.Boxes > 0 && !isInEachPlan(may, a.Boxes))
	})
	if min(kinds[api.Surely], kinds[api.Never], kinds[api.Perhaps]) < rounds/2 {
		t.Errorf("of all couples so many may be, never, and perhaps: %v", kinds)
	}
	if len(seen) < 3 || min(seen["some matches that may not be"], seen["too few boxes"], seen["a greater worth that is not paired"]) < rounds/20 {
		t.Errorf("of all aviaries so many have: %v", seen)
	}
}

// isInEachPlan tells whether the match with the greatest worth is in each of the best plans.
func isInEachPlan(may []api.Match, boxes int) bool {
	if len(may) == 0 {
		return true
	}
	first := slices.MaxFunc(may, func(m, n api.Match) int { return m.Worth - n.Worth })
	most, in := modelMost(may, boxes), true
	eachPlan(may, boxes, func(plan []api.Match) {
		in = in && (worthOf(plan) < most || slices.Contains(plan, first))
	})
	return in
}

// TestSameAgain: P1, a result depends on nothing but the arguments.
func TestSameAgain(t *testing.T) {
	eachAviary(t, func(_ *rand.Rand, a api.Aviary) {
		for range 3 {
			if first, again := ask(a, 0, 1), ask(copied(a), 0, 1); !reflect.DeepEqual(first, again) {
				t.Errorf("the answers are %v, and %v", first, again)
			}
		}
	})
	eachShed(t, func(_ *rand.Rand, s api.Shed) {
		for day := range s.Light {
			if first, again := askShed(s, day), askShed(s, day); !reflect.DeepEqual(first, again) {
				t.Errorf("the answers are %v, and %v", first, again)
			}
		}
	})
}

// TestShedModel: P10.7 to P10.9, and P10.15, as all days that can be darkened tell.
func TestShedModel(t *testing.T) {
	darkened, none := 0, 0
	eachShed(t, func(_ *rand.Rand, s api.Shed) {
		begin, begins := modelMoult(s, nil)
		expectMoult(t, 0, s, begin, errorIf(!begins))
		for day := range s.Light {
			fewest, can := modelFewest(s, day)
			if !can {
				none++
				fewest = 0
			}
			if fewest > 1 {
				darkened++
			}
			expectFewest(t, 0, s, day, fewest, errorIf(!can))
		}
	})
	if min(darkened, none) < rounds/4 {
		t.Errorf("%d sheds are darkened for several days, %d cannot be dark enough", darkened, none)
	}
}

func errorIf(none bool) api.Errno {
	if none {
		return api.ErrNone
	}
	return api.OK
}

// TestNoChickAboveLimit: P10.10 and P0.7.
func TestNoChickAboveLimit(t *testing.T) {
	planned := 0
	eachAviary(t, func(_ *rand.Rand, a api.Aviary) {
		plan, e := pairs.Plan(a)
		if e != api.OK {
			t.Errorf("Plan has the error %d", e)
		}
		for _, w := range worlds(a.Flock) {
			for _, m := range plan {
				planned++
				if !isWithin(w, a.Limit, m.Cock, m.Hen) || !isWithin(chickOf(w, m), a.Limit, m.Cock, m.Hen) {
					t.Errorf("a chick of %v is above the limit in %+v", m, w)
				}
			}
		}
	})
	if planned < rounds {
		t.Errorf("%d matches are planned", planned)
	}
}

// chickOf returns a flock with a chick of a match, if there is room for it, the inbreeding of which is checked.
func chickOf(world api.Flock, m api.Match) api.Flock {
	f := api.Flock{Birds: slices.Clone(world.Birds)}
	if len(f.Birds) == api.MaxBirds {
		return f
	}
	f.Birds = append(f.Birds, bird(0, api.Hen, span(api.MaxYear, api.MaxYear), []int{m.Cock}, []int{m.Hen}))
	low, high, e := rings.Inbred(f, len(f.Birds)-1)
	if asChick, _, _ := rings.Chick(world, m.Cock, m.Hen); e != api.OK || low != high || low != asChick {
		panic("a chick has another inbreeding")
	}
	return f
}

// TestProof: P10.11. Prices at random cover all matches, some with nothing to spare.
func TestProof(t *testing.T) {
	eachAviary(t, func(r *rand.Rand, a api.Aviary) {
		may, most := pairsOf(t, a), mostOf(t, a)
		expectBest(t, "the proof", a)
		for range 20 {
			birds, box := randomPrices(r, a, may)
			if !arePrices(a, may, birds, box) {
				t.Fatalf("%v, %d are no prices of %v", birds, box, may)
			}
			if bound := boundOf(a, birds, box); bound < most {
				t.Errorf("%v, %d have the bound %d, Most = %d", birds, box, bound, most)
			}
		}
	})
}

// randomPrices returns prices of the hens and a box at random, and the least prices of the cocks with which they cover
// all pairs.
func randomPrices(r *rand.Rand, a api.Aviary, may []api.Match) (birds []int, box int) {
	birds = make([]int, len(a.Flock.Birds))
	worth := 0
	for _, m := range may {
		worth = max(worth, m.Worth)
	}
	box = r.Intn(1 + r.Intn(worth+1))
	for i := range birds {
		if a.Flock.Birds[i].Sex == api.Hen {
			birds[i] = r.Intn(1 + r.Intn(worth+1))
		}
	}
	for _, m := range may {
		birds[m.Cock] = max(birds[m.Cock], m.Worth-box-birds[m.Hen])
	}
	return birds, box
}

// TestStricter: P10.12.
func TestStricter(t *testing.T) {
	fewer, less := 0, 0
	eachAviary(t, func(r *rand.Rand, a api.Aviary) {
		may, most := pairsOf(t, a), mostOf(t, a)
		for range 4 {
			b := limited(a, r.Intn(a.Limit.Num+1), a.Limit.Den)
			if r.Intn(2) == 0 {
				b.Limit = frac(a.Limit.Num, a.Limit.Den+r.Intn(api.MaxDen-a.Limit.Den+1))
			}
			left, leftMost := pairsOf(t, b), mostOf(t, b)
			if slices.ContainsFunc(left, func(m api.Match) bool { return !slices.Contains(may, m) }) || leftMost > most {
				t.Errorf("with the limit %v Pairs = %v, Most = %d, and were %v, %d", b.Limit, left, leftMost, may, most)
			}
			if len(left) < len(may) {
				fewer++
			}
			if leftMost < most {
				less++
			}
			couples(a.Flock, func(cock, hen int) {
				before, now := mayOf(t, a, cock, hen), mayOf(t, b, cock, hen)
				if before == api.Never && now != api.Never || before == api.Perhaps && now == api.Surely {
					t.Errorf("with the limit %v May of %d and %d = %d, and was %d", b.Limit, cock, hen, now, before)
				}
			})
		}
	})
	if min(fewer, less) < rounds/10 {
		t.Errorf("%d times there are fewer matches, %d times Most is less", fewer, less)
	}
}

// TestMore: P10.13.
func TestMore(t *testing.T) {
	eachAviary(t, func(r *rand.Rand, a api.Aviary) {
		most := mostOf(t, a)
		for i, m := range a.Matches {
			b := copied(a)
			b.Matches[i].Worth += r.Intn(api.MaxWorth - m.Worth + 1)
			c := copied(a)
			c.Matches = slices.Delete(c.Matches, i, i+1)
			if more, less := mostOf(t, b), mostOf(t, c); more < most || less > most {
				t.Errorf("Most = %d, with more of %v %d, without it %d", most, m, more, less)
			}
		}
		added := api.MaxWorth * api.MaxBirds
		for boxes := range api.MaxBirds {
			before, after := mostOf(t, boxed(a, boxes)), mostOf(t, boxed(a, boxes+1))
			if after < before || after-before > added {
				t.Errorf("with the box %d Most = %d, and was %d, %d more by the one before", boxes+1, after, before, added)
			}
			added = after - before
		}
	})
}

// TestKnown: P10.14.
func TestKnown(t *testing.T) {
	known := 0
	eachAviary(t, func(_ *rand.Rand, a api.Aviary) {
		for i, b := range a.Flock.Birds {
			for p := range b.Sires {
				c := copied(a)
				c.Flock.Birds[i].Sires = slices.Delete(c.Flock.Birds[i].Sires, p, p+1)
				known += expectKnown(t, a, c, len(b.Sires))
			}
			for p := range b.Dams {
				c := copied(a)
				c.Flock.Birds[i].Dams = slices.Delete(c.Flock.Birds[i].Dams, p, p+1)
				known += expectKnown(t, a, c, len(b.Dams))
			}
		}
	})
	if known < rounds {
		t.Errorf("%d couples are known better", known)
	}
}

// expectKnown checks that what is known of an aviary is so of another one, in which a bird has a possible parent less
// than it had. It returns of how many couples more is known.
func expectKnown(t *testing.T, a, b api.Aviary, had int) int {
	t.Helper()
	if many, _ := rings.Many(b.Flock); had == 1 || many == 0 {
		return 0
	}
	better := 0
	couples(a.Flock, func(cock, hen int) {
		before, now := mayOf(t, a, cock, hen), mayOf(t, b, cock, hen)
		if before != api.Perhaps && now != before {
			t.Errorf("May of %d and %d = %d, and was %d before %+v", cock, hen, now, before, b.Flock)
		}
		if now != before {
			better++
		}
	})
	return better
}

// TestLight: P10.15, as no fewer days do.
func TestLight(t *testing.T) {
	eachShed(t, func(_ *rand.Rand, s api.Shed) {
		for day := range s.Light {
			days, e := pairs.Darken(s, day)
			if e != api.OK {
				days = make([]int, len(s.Light)+1)
			} else if !areDays(s, day, days) {
				t.Errorf("Darken of %d = %v", day, days)
			}
			eachDays(s, func(dark []int) {
				if len(dark) < len(days) && areDays(s, day, dark) {
					t.Errorf("Darken of %d = %v, %d, and not %v", day, days, e, dark)
				}
			})
		}
	})
}

// TestMoreLight: P10.16.
func TestMoreLight(t *testing.T) {
	later, more := 0, 0
	eachShed(t, func(r *rand.Rand, s api.Shed) {
		lighter, needless, darker, longer := s, s, s, s
		lighter.Light = slices.Clone(s.Light)
		lighter.Light[r.Intn(len(s.Light))] += 1 + r.Intn(6)
		needless.Need = max(1, s.Need-1-r.Intn(6))
		darker.Dark = max(0, s.Dark-1-r.Intn(4))
		longer.Row++
		for _, x := range []api.Shed{lighter, needless} {
			before, now := moultOf(t, s), moultOf(t, x)
			if now > before {
				t.Errorf("Moult = %d of %+v", now, x)
			}
			later += before - now
		}
		for day := range s.Light {
			fewest := fewestOf(t, s, day)
			for _, x := range []api.Shed{lighter, needless} {
				more += fewestOf(t, x, day) - fewest
				if fewestOf(t, x, day) < fewest {
					t.Errorf("Fewest of %d is less of %+v", day, x)
				}
			}
			for _, x := range []api.Shed{darker, longer} {
				more += fewest - fewestOf(t, x, day)
				if fewestOf(t, x, day) > fewest {
					t.Errorf("Fewest of %d is greater of %+v", day, x)
				}
			}
		}
	})
	if min(later, more) < rounds/4 {
		t.Errorf("the moult begins %d days later, %d more days are dark", later, more)
	}
}

// TestTwoLofts: P0.14.
func TestTwoLofts(t *testing.T) {
	alike, better := 0, 0
	r := rand.New(rand.NewSource(14))
	for range 4 * rounds {
		a := randomAviary(r)
		if r.Intn(2) == 0 {
			a = randomTable(r)
		}
		s := randomStud(r, a.Flock)
		day := r.Intn(6)
		boxes, otherBoxes := r.Intn(4), r.Intn(4)
		one := boxed(owned(t, a, s, day, 1), boxes)
		other := boxed(owned(t, a, s, day, 2), otherBoxes)
		both, together := mostOf(t, one)+mostOf(t, other), mostOf(t, boxed(a, boxes+otherBoxes))
		if both > together {
			t.Fatalf("two members have %d, together they have %d: %+v, %+v, %+v", both, together, one, other, s)
		}
		if both == together && min(mostOf(t, one), mostOf(t, other)) > 0 {
			alike++
		}
		if both < together {
			better++
		}
	}
	if min(alike, better) < rounds/20 {
		t.Errorf("%d times two members do as well, %d times they do better together", alike, better)
	}
}

// randomStud returns birds that two members mostly own, and deeds of the days up to 5.
func randomStud(r *rand.Rand, f api.Flock) api.Stud {
	s := api.Stud{Flock: f}
	for range f.Birds {
		s.Firsts = append(s.Firsts, 1+r.Intn(2+r.Intn(2)))
	}
	for id := range r.Intn(5) {
		s.Deeds = append(s.Deeds, api.Deed{Id: id, Day: r.Intn(6), Ring: r.Intn(11), From: 1 + r.Intn(2), To: 1 + r.Intn(3)})
	}
	return s
}

// owned returns an aviary with just the matches of birds that a member surely owns on a day.
func owned(t *testing.T, a api.Aviary, s api.Stud, day, member int) api.Aviary {
	t.Helper()
	birds, _, e := owners.Birds(s, day, member)
	if e != api.OK {
		t.Fatalf("Birds has the error %d: %+v", e, s)
	}
	a.Matches = slices.DeleteFunc(slices.Clone(a.Matches), func(m api.Match) bool {
		return !slices.Contains(birds, m.Cock) || !slices.Contains(birds, m.Hen)
	})
	return a
}
