package liberate_test

import (
	"math/rand"
	"reflect"
	"slices"
	"testing"

	"squeaker/api"
	"squeaker/liberate"
	"squeaker/lofts"
)

const rounds = 400

// eachRelease gives a test many releases, always the same ones, with the weather that there is; a good part of them has
// ways that are surely inside, open, and surely outside, and of some the fronts contradict each other.
func eachRelease(t *testing.T, test func(r *rand.Rand, x api.Release, weather truth)) {
	t.Helper()
	r := rand.New(rand.NewSource(6))
	seen := map[int]int{}
	for range rounds {
		x, weather := randomRelease(r)
		if e := liberate.Check(x); e != api.OK {
			t.Fatalf("Check has the error %d of %+v", e, x)
		}
		for home := range x.Homes {
			safe, e := liberate.Safe(x, home, someMinute(r, x))
			seen[safe]++
			if e != api.OK && e != api.ErrNone {
				t.Fatalf("Safe has the error %d of %+v", e, x)
			}
		}
		before := x
		before.Homes, before.Fronts, before.Map.East = slices.Clone(x.Homes), slices.Clone(x.Fronts), slices.Clone(x.Map.East)
		test(r, x, weather)
		if !reflect.DeepEqual(before, x) {
			t.Errorf("the release is changed")
		}
		if t.Failed() {
			t.Fatalf("the release: %+v", before)
		}
	}
	for _, safe := range []int{0, api.SurelyInside, api.SurelyOutside, api.OpenSky} {
		if seen[safe] < rounds/20 {
			t.Fatalf("the ways are %v", seen)
		}
	}
}

// someMinute returns a minute, mostly one of the forecast.
func someMinute(r *rand.Rand, x api.Release) int { return r.Intn(x.Hours*hourLong + 20) }

// contradict tells whether the fronts of a release contradict each other.
func contradict(x api.Release) bool {
	_, e := liberate.Weather(x, at(0, 0), 0)
	return e == api.ErrNone
}

// safe returns what Safe says of a home.
func safe(t *testing.T, x api.Release, home, minute int) int {
	t.Helper()
	n, e := liberate.Safe(x, home, minute)
	if e != api.OK {
		t.Errorf("Safe has the error %d", e)
	}
	return n
}

// first returns the first minute of some at which the convoy may be set free, one after all minutes if there is none.
func first(t *testing.T, x api.Release, from, to int) int {
	t.Helper()
	n, e := liberate.First(x, from, to)
	switch e {
	case api.OK:
		return n
	case api.ErrNone:
		return api.MaxSkyTime + 1
	}
	t.Errorf("First has the error %d", e)
	return n
}

// passes returns the places of the way to a home, how far they are, and when birds can be there.
func passes(t *testing.T, x api.Release, home, minute int) (places []api.Point, far []int, when []api.Span) {
	t.Helper()
	places, e := liberate.Way(x, home)
	when, f := liberate.Passes(x, home, minute)
	if e != api.OK || f != api.OK || len(places) != len(when) || len(places) == 0 {
		t.Fatalf("Way = %v, %d, Passes = %v, %d", places, e, when, f)
	}
	for k, p := range places {
		step, e := lofts.Length(x.Map, places[max(0, k-1)], p, api.Down)
		if e != api.OK {
			t.Fatalf("Way = %v", places)
		}
		far = append(far, step)
		if k > 0 {
			far[k] += far[k-1]
		}
	}
	return places, far, when
}

// TestModel: P6.2 to P6.7, everything is what the definitions say, minute by minute.
func TestModel(t *testing.T) {
	eachRelease(t, func(r *rand.Rand, x api.Release, _ truth) {
		modelWays(t, r, x)
		m, ok := modelOf(x)
		if !ok {
			q := question{minute: 5, to: 9}
			errors := each(api.OK, "Check", "Way", "Passes")
			if len(x.Homes) == 0 {
				errors = map[string]api.Errno{"Check": api.OK, "Way": api.ErrArg, "Passes": api.ErrArg, "Safe": api.ErrArg}
			}
			expectErrors(t, "contradiction", ask(x, q), api.ErrNone, errors)
			return
		}
		modelWeather(t, m)
		for range 6 {
			modelSafe(t, m, someMinute(r, x))
		}
		modelFirst(t, r, m)
	})
}

func modelWays(t *testing.T, r *rand.Rand, x api.Release) {
	for home, p := range x.Homes {
		want, far := wayTo(x, p)
		minute := someMinute(r, x)
		places, _, when := passes(t, x, home, minute)
		if !slices.Equal(places, want) {
			t.Errorf("Way to %v = %v, not %v", p, places, want)
		}
		for k := range when {
			if w := passed(x, far, k, minute); when[k] != w {
				t.Errorf("Passes to %v from %d = %v, not %v at %d", p, minute, when, w, k)
			}
		}
	}
}

func modelWeather(t *testing.T, m model) {
	for _, s := range spots(m.Release) {
		sky, e := liberate.Weather(m.Release, s.Point, s.hour)
		for kind, got := range spansOf(sky) {
			can := m.can[s][kind]
			if want := span(can[0], can[len(can)-1]); got != want || e != api.OK {
				t.Errorf("Weather at %v = %v, %d, not %v", s, sky, e, want)
			}
		}
	}
}

func modelSafe(t *testing.T, m model, minute int) {
	var want []api.Block
	for home := range m.Homes {
		is, b := m.safe(home, minute)
		if n := safe(t, m.Release, home, minute); n != is {
			t.Errorf("Safe to %d from %d = %d, not %d", home, minute, n, is)
		}
		if is != api.SurelyInside {
			want = append(want, b)
		}
	}
	if l, e := liberate.Blocks(m.Release, minute); !slices.Equal(l, want) || e != api.OK {
		t.Errorf("Blocks at %d = %v, %d, not %v", minute, l, e, want)
	}
}

func modelFirst(t *testing.T, r *rand.Rand, m model) {
	from := someMinute(r, m.Release)
	to := from + r.Intn(40) - 3
	want, e := 0, api.ErrNone
	for minute := from; minute <= to; minute++ {
		if m.mayFly(minute) {
			want, e = minute, api.OK
			break
		}
	}
	if n, f := liberate.First(m.Release, from, max(0, to)); to >= 0 && (n != want || f != e) {
		t.Errorf("First from %d to %d = %d, %d, not %d, %d", from, to, n, f, want, e)
	}
}

// TestSteps: P6.9.
func TestSteps(t *testing.T) {
	eachRelease(t, func(r *rand.Rand, x api.Release, _ truth) {
		for home, p := range x.Homes {
			places, _, _ := passes(t, x, home, 0)
			if places[0] != x.Base || places[len(places)-1] != p {
				t.Errorf("Way from %v to %v = %v", x.Base, p, places)
			}
			for k := range len(places) - 1 {
				right, below := places[k+1].X-places[k].X, places[k+1].Y-places[k].Y
				if !isIn(right, span(-1, 1)) || !isIn(below, span(-1, 1)) || right == 0 && below == 0 {
					t.Errorf("Way from %v to %v = %v", x.Base, p, places)
				}
			}
		}
	})
}

// A passing is a place of a way, by its number, and a minute at which birds were there.
type passing struct {
	place, minute int
}

// fly lets birds fly on a way from a minute on, and returns where they were, in each minute and at each place.
func fly(r *rand.Rand, speeds api.Span, far []int, minute int) []passing {
	out := []passing{{0, minute}}
	flown, k := 0, 0
	steady, speed := r.Intn(3) == 0, speeds.Low+r.Intn(speeds.High-speeds.Low+1)
	if r.Intn(3) == 0 {
		speed = []int{speeds.Low, speeds.High}[r.Intn(2)]
		steady = true
	}
	for k < len(far)-1 {
		if !steady {
			speed = speeds.Low + r.Intn(speeds.High-speeds.Low+1)
		}
		flown += speed
		// they leave each place and come to the next one in the minute that begins now, or at its end
		for k < len(far)-1 && far[k+1] < flown {
			k++
			out = append(out, passing{k, minute}, passing{k - 1, minute})
		}
		minute++
		if k < len(far)-1 && far[k+1] == flown {
			k++
		}
		out = append(out, passing{k, minute})
	}
	return out
}

// TestAnyFlight: P6.10.
func TestAnyFlight(t *testing.T) {
	early, late := 0, 0
	eachRelease(t, func(r *rand.Rand, x api.Release, _ truth) {
		for home := range x.Homes {
			minute := someMinute(r, x)
			_, far, when := passes(t, x, home, minute)
			for range 4 {
				for _, p := range fly(r, x.Speed, far, minute) {
					if !isIn(p.minute, when[p.place]) {
						t.Errorf("birds are at %v, Passes = %v", p, when)
					}
					if p.minute == when[p.place].Low {
						early++
					}
					if p.minute == when[p.place].High {
						late++
					}
				}
			}
		}
	})
	if early < rounds || late < rounds {
		t.Errorf("birds were %d times at the first minute, %d times at the last one", early, late)
	}
}

// TestNothingOutside: P6.11.
func TestNothingOutside(t *testing.T) {
	flights := 0
	eachRelease(t, func(r *rand.Rand, x api.Release, weather truth) {
		if !isTrue(x, weather) {
			return
		}
		for home := range x.Homes {
			for range 8 {
				minute := someMinute(r, x)
				places, far, _ := passes(t, x, home, minute)
				if safe(t, x, home, minute) != api.SurelyInside {
					continue
				}
				flights++
				for _, p := range fly(r, x.Speed, far, minute) {
					if w := weather.at(r, places[p.place], p.minute); !isInside(w, x.Limits) {
						t.Errorf("the weather is %v at %v from %d to %d", w, p, minute, home)
					}
				}
			}
		}
	})
	if flights < rounds {
		t.Errorf("%d flights were surely inside", flights)
	}
}

// isTrue tells whether the fronts of a release are.
func isTrue(x api.Release, weather truth) bool {
	for s, w := range weather {
		for _, f := range x.Fronts {
			for kind, told := range spansOf(f.Sky) {
				if s.isOf(f) && !isIn(w[kind], told) {
					return false
				}
			}
		}
	}
	return true
}

// TestMoreKnown: P6.12.
func TestMoreKnown(t *testing.T) {
	became, earlier := 0, 0
	eachRelease(t, func(r *rand.Rand, x api.Release, weather truth) {
		more := x
		more.Fronts = append(slices.Clone(x.Fronts), narrowFront(r, x, weather))
		if contradict(more) {
			return
		}
		if contradict(x) {
			t.Errorf("what was contradicted is not any more")
			return
		}
		for home := range x.Homes {
			minute := someMinute(r, x)
			before, after := safe(t, x, home, minute), safe(t, more, home, minute)
			if before != api.OpenSky && after != before {
				t.Errorf("Safe to %d from %d = %d, and %d with one more front", home, minute, before, after)
			}
			if before != after {
				became++
			}
		}
		from := someMinute(r, x)
		before, after := first(t, x, from, from+60), first(t, more, from, from+60)
		if after > before {
			t.Errorf("First from %d = %d, and %d with one more front", from, before, after)
		}
		if after < before {
			earlier++
		}
	})
	if became == 0 || earlier == 0 {
		t.Errorf("%d ways became sure, %d minutes became earlier", became, earlier)
	}
}

// TestStricter: P6.13.
func TestStricter(t *testing.T) {
	less, later := 0, 0
	eachRelease(t, func(r *rand.Rand, x api.Release, _ truth) {
		if contradict(x) {
			return
		}
		stricter := x
		switch n := r.Intn(60); r.Intn(3) {
		case 0:
			stricter.Limits.Wind = max(0, x.Limits.Wind-n)
		case 1:
			stricter.Limits.Sight = min(api.MaxSky, x.Limits.Sight+n)
		default:
			stricter.Limits.Heat = max(0, x.Limits.Heat-n)
		}
		for home := range x.Homes {
			minute := someMinute(r, x)
			before, after := safe(t, x, home, minute), safe(t, stricter, home, minute)
			if before != api.SurelyInside && after == api.SurelyInside || before == api.SurelyOutside && after != before {
				t.Errorf("Safe to %d from %d = %d, and %d with %v", home, minute, before, after, stricter.Limits)
			}
			if before != after {
				less++
			}
		}
		from := someMinute(r, x)
		before, after := first(t, x, from, from+60), first(t, stricter, from, from+60)
		if after < before {
			t.Errorf("First from %d = %d, and %d with %v", from, before, after, stricter.Limits)
		}
		if after > before {
			later++
		}
	})
	if less == 0 || later == 0 {
		t.Errorf("%d ways are less sure, %d minutes are later", less, later)
	}
}

// TestAnyOrder: P6.14.
func TestAnyOrder(t *testing.T) {
	eachRelease(t, func(r *rand.Rand, x api.Release, _ truth) {
		other := x
		other.Fronts = slices.Clone(x.Fronts)
		for range 3 {
			r.Shuffle(len(other.Fronts), func(i, j int) { other.Fronts[i], other.Fronts[j] = other.Fronts[j], other.Fronts[i] })
			from := someMinute(r, x)
			q := question{r.Intn(len(x.Homes) + 1), someMinute(r, x), randomPlace(r, x.Map), r.Intn(x.Hours), from, from + r.Intn(60)}
			if a, b := ask(x, q), ask(other, q); !reflect.DeepEqual(a, b) {
				t.Errorf("in another order: %v, and %v", a, b)
			}
		}
	})
}

// TestFirstOfAll: P6.15.
func TestFirstOfAll(t *testing.T) {
	found, none := 0, 0
	eachRelease(t, func(r *rand.Rand, x api.Release, _ truth) {
		if contradict(x) {
			return
		}
		from := someMinute(r, x)
		to := from + r.Intn(80)
		n := first(t, x, from, to)
		if n > to && n <= api.MaxSkyTime || n < from {
			t.Errorf("First from %d to %d = %d", from, to, n)
		}
		for minute := from; minute <= min(to, n); minute++ {
			blocks, e := liberate.Blocks(x, minute)
			if e != api.OK {
				t.Errorf("Blocks has the error %d", e)
			}
			if may := len(blocks) == 0 && !isDark(x, minute); may != (minute == n) {
				t.Errorf("First from %d to %d = %d, Blocks at %d = %v", from, to, n, minute, blocks)
			}
		}
		if n > to {
			none++
		} else if n > from {
			found++
		}
	})
	if found == 0 || none == 0 {
		t.Errorf("%d minutes were found, %d times there was none", found, none)
	}
}

// TestWatches: P6.8 and P6.16.
func TestWatches(t *testing.T) {
	r := rand.New(rand.NewSource(16))
	narrower, none := 0, 0
	for range rounds {
		last := 1 + r.Intn(40)
		var l []api.Span
		for range 1 + r.Intn(api.MaxWatches) {
			l = append(l, part(r, last))
		}
		if r.Intn(20) == 0 {
			l[0] = span(r.Intn(20), api.MaxSkyTime)
		}
		before := slices.Clone(l)
		former := span(api.MaxSkyTime+1, -1)
		for wrong := range api.MaxWatches + 1 {
			told, e := liberate.Minute(l, wrong)
			want := toldBy(l, wrong)
			if len(want) == 0 {
				none++
				if told != span(0, 0) || e != api.ErrNone {
					t.Fatalf("Minute of %v, %d = %v, %d", l, wrong, told, e)
				}
				continue
			}
			if e != api.OK || told != span(want[0], want[len(want)-1]) {
				t.Fatalf("Minute of %v, %d = %v, %d, not %v", l, wrong, told, e, want)
			}
			if told.Low > former.Low || told.High < former.High {
				t.Fatalf("Minute of %v, %d = %v, %v with one wrong less", l, wrong, told, former)
			}
			if told != former {
				narrower++
			}
			former = told
		}
		if !slices.Equal(l, before) {
			t.Fatalf("the watches are changed: %v, %v", before, l)
		}
	}
	if narrower < rounds || none < rounds/4 {
		t.Errorf("%d times less is told by more watches, %d times nothing", narrower, none)
	}
}

// toldBy returns the minutes that at most wrong watches contradict.
func toldBy(l []api.Span, wrong int) []int {
	var out []int
	for minute := range api.MaxSkyTime + 1 {
		right := 0
		for _, s := range l {
			if isIn(minute, s) {
				right++
			}
		}
		if right+wrong >= len(l) {
			out = append(out, minute)
		}
	}
	return out
}

// TestStraightWay: P0.11.
func TestStraightWay(t *testing.T) {
	r := rand.New(rand.NewSource(11))
	for range rounds {
		x, _ := randomRelease(r)
		a, b := randomPlace(r, x.Map), randomPlace(r, x.Map)
		if r.Intn(2) == 0 {
			a.X = b.X
		} else {
			a.Y = b.Y
		}
		x.Map.Lofts = 2
		for loft, p := range []api.Point{a, b} {
			x.Map.Surveys = append(x.Map.Surveys, api.Survey{Loft: loft, Kind: api.Box, X: span(p.X, p.X), Y: span(p.Y, p.Y)})
		}
		x.Base, x.Homes, x.Fronts = a, []api.Point{b}, nil
		far, e := lofts.Distance(x.Map, 0, 1, api.Down)
		_, _, when := passes(t, x, 0, 100)
		want := span(100+far.Low/x.Speed.High, 100+(far.High+x.Speed.Low-1)/x.Speed.Low)
		if got := when[len(when)-1]; e != api.OK || got != want {
			t.Fatalf("from %v to %v, %v, %d, Passes = %v, not %v", a, b, far, e, got, want)
		}
	}
}
