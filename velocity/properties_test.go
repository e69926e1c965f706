package velocity_test

import (
	"math/rand"
	"reflect"
	"slices"
	"testing"

	"squeaker/api"
	"squeaker/baskets"
	"squeaker/clocks"
	"squeaker/lofts"
	"squeaker/velocity"
)

const rounds = 600

// mostTruths is the greatest number of truths that are all tried.
const mostTruths = 20000

// eachDerby gives a test many small derbies whose birds have velocities, always the same ones; a good part of them has
// places that are sure, places that are not, and each result of Compare.
func eachDerby(t *testing.T, test func(r *rand.Rand, u unknown)) {
	t.Helper()
	r := rand.New(rand.NewSource(7))
	seen, faster := map[bool]int{}, map[int]int{}
	for n := 0; n < rounds; {
		u, e := unknownOf(randomDerby(r))
		if e != api.OK || u.noVelocity() || u.many() > mostTruths {
			continue
		}
		n++
		for i := range u.Homings {
			places := places(t, u.Derby, i)
			seen[places.Low == places.High]++
			if i > 0 {
				faster[compare(t, u.Derby, i-1, i)]++
			}
		}
		call(t, r, u, test)
	}
	for _, sure := range []bool{false, true} {
		if seen[sure] < rounds/4 {
			t.Fatalf("the places are sure, or not: %v", seen)
		}
	}
	for result := range api.OpenFaster {
		if faster[result+1] < rounds/20 {
			t.Fatalf("the birds are faster: %v", faster)
		}
	}
}

// eachLargeDerby gives a test many derbies of kilometres and hours.
func eachLargeDerby(t *testing.T, test func(r *rand.Rand, u unknown)) {
	t.Helper()
	r := rand.New(rand.NewSource(8))
	races := 0
	for range rounds / 30 {
		d := randomLargeDerby(r)
		u, e := unknownOf(d)
		if e != api.OK {
			t.Fatalf("the derby has the error %d: %+v", e, d)
		}
		if raceError(d) == api.OK {
			races++
			call(t, r, u, test)
		}
	}
	if races < rounds/60 {
		t.Fatalf("there are only %d derbies", races)
	}
}

// call gives a test a derby, which it may not change.
func call(t *testing.T, r *rand.Rand, u unknown, test func(r *rand.Rand, u unknown)) {
	t.Helper()
	before := copied(u.Derby)
	test(r, u)
	if !reflect.DeepEqual(before, u.Derby) {
		t.Errorf("the derby is changed")
	}
	if t.Failed() {
		t.Fatalf("the derby: %+v", before)
	}
}

func places(t *testing.T, d api.Derby, i int) api.Span {
	t.Helper()
	s, e := velocity.Places(d, i)
	if e != api.OK {
		t.Fatalf("Places has the error %d", e)
	}
	return s
}

func compare(t *testing.T, d api.Derby, a, b int) int {
	t.Helper()
	n, e := velocity.Compare(d, a, b)
	if e != api.OK {
		t.Fatalf("Compare has the error %d", e)
	}
	return n
}

func flight(t *testing.T, d api.Derby, i int) api.Span {
	t.Helper()
	s, e := velocity.Flight(d, i)
	if e != api.OK {
		t.Fatalf("Flight has the error %d", e)
	}
	return s
}

func list(t *testing.T, d api.Derby) []int {
	t.Helper()
	l, e := velocity.List(d)
	if e != api.OK || len(l) != len(d.Homings) {
		t.Fatalf("List = %v, %d", l, e)
	}
	return l
}

// Answers are all that the functions say of a derby and its homings.
type answers struct {
	list            []int
	flights, places []api.Span
	slow, fast      []api.Frac
	compared        [][]int
}

func answersOf(t *testing.T, d api.Derby) answers {
	t.Helper()
	all := answers{list: list(t, d)}
	for i := range d.Homings {
		low, high, e := velocity.Speed(d, i)
		if e != api.OK {
			t.Fatalf("Speed has the error %d", e)
		}
		var compared []int
		for j := range d.Homings {
			compared = append(compared, compare(t, d, i, j))
		}
		all.slow, all.fast = append(all.slow, low), append(all.fast, high)
		all.flights, all.places = append(all.flights, flight(t, d, i)), append(all.places, places(t, d, i))
		all.compared = append(all.compared, compared)
	}
	return all
}

// TestModelErrors: P1 and P7.1, a question has an error just if some bird may have no velocity, and Check never has it.
func TestModelErrors(t *testing.T) {
	r := rand.New(rand.NewSource(71))
	seen := map[api.Errno]int{}
	for range 5 * rounds {
		d := randomDerby(r)
		u, want := unknownOf(d)
		if want == api.OK && u.noVelocity() {
			want = api.ErrHoming
		}
		seen[want]++
		if e := raceError(d); e != want {
			t.Fatalf("List has the error %d, not %d: %+v", e, want, d)
		}
		if e := velocity.Check(d); e != api.OK {
			t.Fatalf("Check = %d: %+v", e, d)
		}
	}
	for _, e := range []api.Errno{api.OK, api.ErrHoming} {
		if seen[e] < rounds {
			t.Errorf("the errors are %v", seen)
		}
	}
}

// A result is what all truths together say of two birds.
type result struct{ ahead, behind, together bool }

func (x result) kind() int {
	switch {
	case x.ahead && !x.behind && !x.together:
		return api.FirstFaster
	case x.behind && !x.ahead && !x.together:
		return api.SecondFaster
	case !x.ahead && !x.behind:
		return api.SameSpeed
	}
	return api.OpenFaster
}

// A summary is what all truths together say of a bird.
type summary struct {
	flight, places api.Span
	slow, fast     flownBird
	against        [api.MaxHomings]result
}

// add adds a truth to a summary of the bird of a homing.
func (s *summary) add(birds []flownBird, i int) {
	one, place := birds[i], placeOf(birds, i)
	if s.flight == (api.Span{}) {
		s.flight, s.places, s.slow, s.fast = span(one.seconds, one.seconds), span(place, place), one, one
	}
	s.flight = span(min(s.flight.Low, one.seconds), max(s.flight.High, one.seconds))
	s.places = span(min(s.places.Low, place), max(s.places.High, place))
	if s.slow.isAhead(one) {
		s.slow = one
	}
	if one.isAhead(s.fast) {
		s.fast = one
	}
	for j, other := range birds {
		x := &s.against[j]
		switch {
		case one.isAhead(other):
			x.ahead = true
		case other.isAhead(one):
			x.behind = true
		default:
			x.together = true
		}
	}
}

// reduced tells whether a fraction is a velocity, without a common divisor.
func reduced(f api.Frac, b flownBird) bool {
	for n := 2; n <= min(f.Num, f.Den); n++ {
		if f.Num%n == 0 && f.Den%n == 0 {
			return false
		}
	}
	return f.Den > 0 && f.Num*b.seconds == b.far*f.Den
}

// TestModel: P7.2 to P7.6, everything is what the truths say, each of which is tried.
func TestModel(t *testing.T) {
	eachDerby(t, func(_ *rand.Rand, u unknown) {
		summaries := make([]summary, len(u.Homings))
		counted := u.remembering()
		for _, x := range u.truths() {
			birds := u.flights(x, counted)
			for i := range summaries {
				summaries[i].add(birds, i)
			}
		}
		var sure []int
		for i := range summaries {
			modelBird(t, u.Derby, i, &summaries[i])
			place := summaries[i].places.Low
			if place != summaries[i].places.High {
				place = 0
			}
			sure = append(sure, place)
		}
		if l := list(t, u.Derby); !slices.Equal(l, sure) {
			t.Errorf("List = %v, not %v", l, sure)
		}
	})
}

func modelBird(t *testing.T, d api.Derby, i int, want *summary) {
	t.Helper()
	if s := flight(t, d, i); s != want.flight {
		t.Errorf("Flight of %d = %v, not %v", i, s, want.flight)
	}
	if low, high, e := velocity.Speed(d, i); e != api.OK || !reduced(low, want.slow) || !reduced(high, want.fast) {
		t.Errorf("Speed of %d = %v, %v, %d, not of %v and %v", i, low, high, e, want.slow, want.fast)
	}
	if s := places(t, d, i); s != want.places {
		t.Errorf("Places of %d = %v, not %v", i, s, want.places)
	}
	for j := range d.Homings {
		if n := compare(t, d, i, j); n != want.against[j].kind() {
			t.Errorf("Compare of %d and %d = %d, not %d", i, j, n, want.against[j].kind())
		}
	}
}

// TestWhateverIsTrue: P7.8, in derbies of all sizes.
func TestWhateverIsTrue(t *testing.T) {
	eachLargeDerby(t, func(r *rand.Rand, u unknown) {
		// a flight of hours is not counted second by second
		counted := func(start, home int) int {
			n := home - start
			for _, night := range u.Nights {
				for second := max(start, night.Low); second <= night.High && second < home; second++ {
					n--
				}
			}
			return n
		}
		told := answersOf(t, u.Derby)
		for range 20 {
			expectTruth(t, told, u.flights(u.someTruth(r), counted))
		}
	})
	eachDerby(t, func(r *rand.Rand, u unknown) {
		told := answersOf(t, u.Derby)
		counted := u.remembering()
		for range 20 {
			expectTruth(t, told, u.flights(u.someTruth(r), counted))
		}
	})
}

// expectTruth checks that nothing that was told contradicts the birds of a truth.
func expectTruth(t *testing.T, told answers, birds []flownBird) {
	t.Helper()
	for i, one := range birds {
		place, low, high := placeOf(birds, i), told.slow[i], told.fast[i]
		if one.far*low.Den < low.Num*one.seconds || one.far*high.Den > high.Num*one.seconds {
			t.Errorf("%d: Speed = %v, %v, but it is %v", i, low, high, one)
		}
		if !isIn(one.seconds, told.flights[i]) {
			t.Errorf("%d: Flight = %v, but it is %v", i, told.flights[i], one)
		}
		if !isIn(place, told.places[i]) || told.list[i] != 0 && told.list[i] != place {
			t.Errorf("%d: Places = %v, List = %v, but it is %d", i, told.places[i], told.list, place)
		}
		for j, other := range birds {
			n, ahead, behind := told.compared[i][j], one.isAhead(other), other.isAhead(one)
			if n == api.FirstFaster && !ahead || n == api.SecondFaster && !behind || n == api.SameSpeed && (ahead || behind) {
				t.Errorf("Compare of %d and %d = %d, but they are %v and %v", i, j, n, one, other)
			}
		}
	}
}

// expectMoreKnown checks that nothing becomes possible that was not, and tells whether something is not any more.
func expectMoreKnown(t *testing.T, less, more answers) (narrower bool) {
	t.Helper()
	for i, was := range less.places {
		is := more.places[i]
		if !isIn(is.Low, was) || !isIn(is.High, was) || less.list[i] != 0 && less.list[i] != more.list[i] {
			t.Errorf("%d: Places was %v, and is %v; List was %v, and is %v", i, was, is, less.list, more.list)
		}
		narrower = narrower || was != is
		for j, n := range less.compared[i] {
			if now := more.compared[i][j]; n != api.OpenFaster && n != now {
				t.Errorf("Compare of %d and %d was %d, and is %d", i, j, n, now)
			}
		}
	}
	return narrower
}

// TestListStays: P7.9.
func TestListStays(t *testing.T) {
	judgedLess, startLess := 0, 0
	test := func(r *rand.Rand, u unknown) {
		told := answersOf(t, u.Derby)
		for i, can := range u.home {
			low := someOf(r, span(0, len(can)-1))
			w := span(can[low], can[low]+r.Intn(4))
			judged, e := velocity.Judge(u.Derby, i, w)
			if e != api.OK {
				t.Fatalf("Judge of %d, %v has the error %d", i, w, e)
			}
			then := answersOf(t, judged)
			if expectMoreKnown(t, told, then) {
				judgedLess++
			}
			again, e := velocity.Judge(judged, i, span(can[low], can[low]))
			if e != api.OK {
				t.Fatalf("Judge of %d, judged %v, has the error %d", i, w, e)
			}
			expectMoreKnown(t, then, answersOf(t, again))
		}
		for range 3 {
			shorter := u.Derby
			shorter.Start.Low = someOf(r, shorter.Start)
			shorter.Start.High = someOf(r, shorter.Start)
			if expectMoreKnown(t, told, answersOf(t, shorter)) {
				startLess++
			}
		}
	}
	eachDerby(t, test)
	eachLargeDerby(t, test)
	if judgedLess < rounds/4 || startLess < rounds/100 {
		t.Errorf("%d times less is possible after it was judged, %d times with a narrower Start", judgedLess, startLess)
	}
}

// TestEachStart: P7.5 and P7.9, in close races of which just the second of the liberation is not known, what is possible
// at all is what is possible in some second.
func TestEachStart(t *testing.T) {
	r := rand.New(rand.NewSource(75))
	between := 0
	for range rounds / 4 {
		var fliers []flier
		for loft := range 3 + r.Intn(3) {
			home := 20*(loft+1) + r.Intn(5) - 2
			fliers = append(fliers, flier{1 + loft, home, home})
		}
		d := flown(span(0, 1+r.Intn(8)), at(1, 2, 3, 4, 5), randomNights(r, 60), fliers...)
		if raceError(d) != api.OK {
			continue
		}
		told := answersOf(t, d)
		possible := make([]api.Span, len(fliers))
		var first, last answers
		for start := d.Start.Low; start <= d.Start.High; start++ {
			then := d
			then.Start = span(start, start)
			last = answersOf(t, then)
			if start == d.Start.Low {
				first, possible = last, slices.Clone(last.places)
			}
			expectMoreKnown(t, told, last)
			for i, is := range last.places {
				possible[i] = span(min(possible[i].Low, is.Low), max(possible[i].High, is.High))
			}
		}
		if !slices.Equal(told.places, possible) {
			t.Fatalf("Places = %v, not %v: %+v", told.places, possible, d)
		}
		for i, can := range possible {
			ends := []int{first.list[i], last.list[i]}
			if can != span(slices.Min(ends), slices.Max(ends)) {
				between++
			}
		}
	}
	if between < rounds/40 {
		t.Errorf("only %d places are possible in between alone", between)
	}
}

// TestJudged: P7.7, flights of homings that are judged, some of them once more.
func TestJudged(t *testing.T) {
	seen := map[api.Errno]int{}
	eachDerby(t, func(r *rand.Rand, u unknown) {
		for i, can := range u.home {
			low := max(1, can[0]+r.Intn(12)-6)
			w := span(low, low+r.Intn(4))
			was := u.Homings[i].Judged
			judged, e := velocity.Judge(u.Derby, i, w)
			seen[e]++
			if was != span(0, 0) && (w.High < was.Low || w.Low > was.High) {
				if e != api.ErrHoming {
					t.Errorf("Judge of %d, judged %v, %v has the error %d", i, was, w, e)
				}
				continue
			}
			if e != api.OK {
				t.Fatalf("Judge of %d, judged %v, %v has the error %d", i, was, w, e)
			}
			within := slices.DeleteFunc(slices.Clone(can), func(second int) bool { return !isIn(second, w) })
			if len(within) == 0 {
				if e := raceError(judged); e != api.ErrHoming {
					t.Errorf("List of what Judge of %d, %v returns has the error %d", i, w, e)
				}
				continue
			}
			want := span(u.flight(u.Start.High, within[0]), u.flight(u.Start.Low, within[len(within)-1]))
			if s := flight(t, judged, i); s != want {
				t.Errorf("Flight of what Judge of %d, %v returns = %v, not %v", i, w, s, want)
			}
		}
	})
	if seen[api.OK] < rounds || seen[api.ErrHoming] < rounds/60 {
		t.Errorf("the errors are %v", seen)
	}
}

// TestTwoBirds: P7.10.
func TestTwoBirds(t *testing.T) {
	chains := 0
	test := func(_ *rand.Rand, u unknown) {
		compared := answersOf(t, u.Derby).compared
		for a := range compared {
			if n := compared[a][a]; n != api.SameSpeed {
				t.Errorf("Compare of %d and itself = %d", a, n)
			}
			for b, n := range compared[a] {
				if back := compared[b][a]; back != mirrored(n) {
					t.Errorf("Compare of %d and %d = %d, the other way round %d", a, b, n, back)
				}
				for c := range compared {
					if n != api.FirstFaster || compared[b][c] != api.FirstFaster {
						continue
					}
					chains++
					if n := compared[a][c]; n != api.FirstFaster {
						t.Errorf("Compare of %d and %d = %d, but %d is between them", a, c, n, b)
					}
				}
			}
		}
	}
	eachLargeDerby(t, test)
	eachDerby(t, test)
	if chains < rounds/4 {
		t.Errorf("there are only %d times three birds", chains)
	}
}

// TestOneLoft: P7.11.
func TestOneLoft(t *testing.T) {
	faster, same, open := 0, 0, 0
	eachDerby(t, func(_ *rand.Rand, u unknown) {
		counted := u.remembering()
		for a := range u.Homings {
			for b := range a {
				if u.Homings[a].Loft != u.Homings[b].Loft {
					continue
				}
				want := result{}
				for start := u.Start.Low; start <= u.Start.High; start++ {
					for _, first := range u.home[a] {
						for _, second := range u.home[b] {
							m, n := counted(start, first), counted(start, second)
							want.ahead, want.behind, want.together = want.ahead || m < n, want.behind || m > n, want.together || m == n
						}
					}
				}
				switch want.kind() {
				case api.SameSpeed:
					same++
				case api.OpenFaster:
					open++
				default:
					faster++
				}
				if n := compare(t, u.Derby, a, b); n != want.kind() {
					t.Errorf("Compare of %d and %d = %d, not %d", a, b, n, want.kind())
				}
			}
		}
	})
	if faster < rounds/10 || same < rounds/20 || open < rounds/20 {
		t.Errorf("of one loft %d birds are faster, %d not, and of %d it is not known", faster, same, open)
	}
}

// withNight returns a derby in which a second is a night, and whether it can become one.
func withNight(d api.Derby, second int) (api.Derby, bool) {
	night := slices.ContainsFunc(d.Nights, func(night api.Span) bool { return isIn(second, night) })
	if night || len(d.Nights) == api.MaxNights || !isIn(second, span(0, lastSecond)) {
		return d, false
	}
	d.Nights = append(slices.Clone(d.Nights), span(second, second))
	slices.SortFunc(d.Nights, func(a, b api.Span) int { return a.Low - b.Low })
	return d, true
}

// TestNights: P7.12, and that another second does change something.
func TestNights(t *testing.T) {
	idle, counted := 0, 0
	test := func(r *rand.Rand, u unknown) {
		told := answersOf(t, u.Derby)
		last, first := 0, lastSecond
		for _, can := range u.home {
			last, first = max(last, can[len(can)-1]), min(first, can[0])
		}
		for _, second := range []int{0, u.Start.Low - 1, u.Start.Low - 1 - r.Intn(20), last, last + 1, last + r.Intn(50), lastSecond} {
			if isIn(second, span(u.Start.Low, last-1)) {
				continue
			}
			darker, ok := withNight(u.Derby, second)
			if !ok {
				continue
			}
			idle++
			if is := answersOf(t, darker); !reflect.DeepEqual(is, told) {
				t.Errorf("with a night at %d: %v, but it was %v", second, is, told)
			}
		}
		second := u.Start.High + r.Intn(first-u.Start.High)
		if darker, ok := withNight(u.Derby, second); ok && raceError(darker) == api.OK {
			counted++
			for i, was := range told.flights {
				if is := flight(t, darker, i); is != span(was.Low-1, was.High-1) {
					t.Errorf("Flight of %d was %v, and with a night at %d it is %v", i, was, second, is)
				}
			}
		}
	}
	eachDerby(t, test)
	eachLargeDerby(t, test)
	if idle < rounds || counted < rounds/4 {
		t.Errorf("%d seconds are of no flight, %d of all of them", idle, counted)
	}
}

// randomClock returns a clock that has truths.
func randomClock(r *rand.Rand) api.Clock {
	c := api.Clock{Hours: 1 + r.Intn(3), Shown: r.Intn(100), Drift: span(-r.Intn(10), r.Intn(10)), Step: r.Intn(10)}
	if at := r.Intn(c.Hours * 3600); r.Intn(2) == 0 {
		c.Strikes = []api.Strike{{At: at, Shown: span(max(0, c.Shown+at-30), c.Shown+at+30)}}
	}
	return c
}

// TestClockedBirds: P0.1.
func TestClockedBirds(t *testing.T) {
	r := rand.New(rand.NewSource(1))
	seen := map[int]int{}
	for range rounds {
		a, b := randomClock(r), randomClock(r)
		shown, set := 200+r.Intn(3000), r.Intn(api.MaxSecond)
		x := api.Clocking{Shown: a.Shown + shown, Late: r.Intn(1 + r.Intn(20))}
		y := api.Clocking{Shown: b.Shown + shown + r.Intn(41) - 20, Late: r.Intn(1 + r.Intn(20))}
		d := flown(span(set, set+r.Intn(100)), []api.Span{span(1+r.Intn(3), 4+r.Intn(6))}, nil, flier{1, 1, 1}, flier{1, 1, 1})
		d.Timers = []api.Timer{{Clock: a, Set: set}, {Clock: b, Set: set}}
		d.Homings[0].Clocking, d.Homings[1].Clocking, d.Homings[1].Timer = x, y, 1
		ahead, e := clocks.Ahead(a, x, b, y)
		if e == api.ErrNone {
			continue
		}
		seen[ahead]++
		n := compare(t, d, 0, 1)
		if e != api.OK || (ahead == api.SurelyAhead) != (n == api.FirstFaster) || (ahead == api.SurelyBehind) != (n == api.SecondFaster) {
			t.Fatalf("Ahead = %d, %d, Compare = %d: %+v", ahead, e, n, d)
		}
	}
	for ahead := range api.OpenAhead {
		if seen[ahead+1] < rounds/10 {
			t.Errorf("birds are ahead: %v", seen)
		}
	}
}

// TestFartherLoft: P0.2.
func TestFartherLoft(t *testing.T) {
	seen := map[int]int{}
	alike := func(r *rand.Rand, u unknown) {
		d := u.Derby
		first := d.Homings[0]
		d.Homings = nil
		for loft := range d.Map.Lofts {
			h := first
			h.Bird, h.Loft = loft, loft
			if far, e := lofts.Distance(d.Map, d.Point, loft, d.Rule); e == api.OK && far.Low > 0 {
				d.Homings = append(d.Homings, h)
			}
		}
		for a, one := range d.Homings {
			for b, other := range d.Homings {
				which, e := lofts.Nearer(d.Map, d.Point, one.Loft, other.Loft)
				n := compare(t, d, a, b)
				seen[which]++
				if e != api.OK || which == api.FirstNearer && n == api.FirstFaster || which == api.SecondNearer && n == api.SecondFaster ||
					which == api.SameDistance && (n == api.FirstFaster || n == api.SecondFaster) {
					t.Errorf("Nearer of %d and %d = %d, %d, Compare = %d", one.Loft, other.Loft, which, e, n)
				}
				if n == api.FirstFaster || n == api.SecondFaster {
					seen[0]++
				}
			}
		}
	}
	eachLargeDerby(t, alike)
	eachDerby(t, alike)
	for _, which := range []int{0, api.FirstNearer, api.SecondNearer, api.SameDistance} {
		if seen[which] < rounds/10 {
			t.Errorf("birds that were clocked alike are faster, or came from nearer lofts: %v", seen)
		}
	}
}

// randomConvoy returns a convoy of some birds, some baskets of which were opened.
func randomConvoy(r *rand.Rand, birds int) api.Convoy {
	c := api.Convoy{Baskets: 1 + r.Intn(4), Birds: birds, End: 100}
	act := func(at, kind, basket int) *api.Act {
		c.Acts = append(c.Acts, api.Act{Id: len(c.Acts), At: at, Kind: kind, Basket: basket})
		return &c.Acts[len(c.Acts)-1]
	}
	for bird := range birds {
		a := act(r.Intn(9), api.MarkIn, r.Intn(c.Baskets))
		a.Bird, a.First, a.Second = bird, 1, 2
	}
	for basket := range c.Baskets {
		act(10, api.SealUp, basket).Seal = basket + 1
		act(90, api.Unseal, basket).Seal = (basket + 1) * r.Intn(2)
	}
	return c
}

// TestOpenedBasket: P0.3.
func TestOpenedBasket(t *testing.T) {
	better, left := 0, 0
	test := func(r *rand.Rand, u unknown) {
		d := copied(u.Derby)
		for i := range d.Homings {
			d.Homings[i].Bird = i
		}
		struck, _, e := baskets.Struck(randomConvoy(r, len(d.Homings)))
		if e != api.OK {
			t.Fatalf("Struck has the error %d", e)
		}
		rest := d
		rest.Homings = slices.DeleteFunc(slices.Clone(d.Homings), func(h api.Homing) bool { return slices.Contains(struck, h.Bird) })
		left += len(rest.Homings)
		for i, h := range rest.Homings {
			was, is := places(t, d, h.Bird), places(t, rest, i)
			if is.Low > was.Low || is.High > was.High {
				t.Errorf("Places of %d was %v, and without %v it is %v", h.Bird, was, struck, is)
			}
			if is != was {
				better++
			}
		}
	}
	eachDerby(t, test)
	eachLargeDerby(t, test)
	if better < rounds/10 || left < rounds/2 {
		t.Errorf("of %d birds only %d have better places", left, better)
	}
}
