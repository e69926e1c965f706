package liberate_test

import (
	"math/rand"
	"slices"

	"squeaker/api"
	"squeaker/lofts"
)

const hourLong = 60

func isIn(n int, s api.Span) bool { return s.Low <= n && n <= s.High }

// A spot is a place in an hour.
type spot struct {
	api.Point
	hour int
}

func (s spot) isOf(f api.Front) bool {
	return isIn(s.hour, f.Hours) && isIn(s.X, f.X) && isIn(s.Y, f.Y)
}

// spots returns all places in all hours.
func spots(r api.Release) []spot {
	var out []spot
	for y := range r.Map.East {
		for x := range r.Map.Columns {
			for hour := range r.Hours {
				out = append(out, spot{at(x, y), hour})
			}
		}
	}
	return out
}

// A sample is a wind, a sight and a heat.
type sample [3]int

func isInside(s sample, l api.Limits) bool {
	return s[0] <= l.Wind && s[1] >= l.Sight && s[2] <= l.Heat
}

func spansOf(s api.Sky) [3]api.Span { return [3]api.Span{s.Wind, s.Sight, s.Heat} }

// Numbers are the winds, the sights and the heats that there can be, in ascending order.
type numbers [3][]int

// possible returns the numbers that no front excludes, each tried alone.
func possible(r api.Release, s spot) numbers {
	var can numbers
	for kind := range can {
	next:
		for n := range api.MaxSky + 1 {
			for _, f := range r.Fronts {
				if s.isOf(f) && !isIn(n, spansOf(f.Sky)[kind]) {
					continue next
				}
			}
			can[kind] = append(can[kind], n)
		}
	}
	return can
}

// every tells whether numbers are all as they must be.
func every(l []int, is func(n int) bool) bool {
	return !slices.ContainsFunc(l, func(n int) bool { return !is(n) })
}

// A model is a release, and what is known of the weather at all its spots.
type model struct {
	api.Release
	can     map[spot]numbers
	inside  map[spot]bool
	outside map[spot]bool
}

// modelOf returns the model of a release, and whether its fronts do not contradict each other.
func modelOf(r api.Release) (model, bool) {
	m := model{r, map[spot]numbers{}, map[spot]bool{}, map[spot]bool{}}
	for _, s := range append(spots(r), spot{hour: r.Hours}) {
		can := possible(r, s)
		for _, l := range can {
			if len(l) == 0 {
				return model{}, false
			}
		}
		m.can[s] = can
		m.inside[s] = every(can[0], func(n int) bool { return n <= r.Limits.Wind }) &&
			every(can[1], func(n int) bool { return n >= r.Limits.Sight }) && every(can[2], func(n int) bool { return n <= r.Limits.Heat })
		m.outside[s] = every(can[0], func(n int) bool { return n > r.Limits.Wind }) ||
			every(can[1], func(n int) bool { return n < r.Limits.Sight }) || every(can[2], func(n int) bool { return n > r.Limits.Heat })
	}
	return m, true
}

// at returns the spot of a place at a minute: after the last hour, one of which nothing is known.
func (m model) at(p api.Point, minute int) spot {
	if minute >= m.Hours*hourLong {
		return spot{hour: m.Hours}
	}
	return spot{p, minute / hourLong}
}

// nearest returns the number that is nearest to the one after k of n steps, the greater one of two.
func nearest(from, to, k, n int) int {
	// n times how far it is from what is not rounded
	off := func(c int) int { return max(n*c-n*from-k*(to-from), n*from+k*(to-from)-n*c) }
	best := 0
	for c := range api.MaxColumns {
		if off(c) <= off(best) {
			best = c
		}
	}
	return best
}

// wayTo returns the places of the way to a home, and how far it is to each of them.
func wayTo(r api.Release, home api.Point) (places []api.Point, far []int) {
	n := max(home.X-r.Base.X, r.Base.X-home.X, home.Y-r.Base.Y, r.Base.Y-home.Y)
	places, far = []api.Point{r.Base}, []int{0}
	for k := 1; k <= n; k++ {
		p := at(nearest(r.Base.X, home.X, k, n), nearest(r.Base.Y, home.Y, k, n))
		step, e := lofts.Length(r.Map, places[k-1], p, api.Down)
		if e != api.OK {
			panic("no length")
		}
		places, far = append(places, p), append(far, far[k-1]+step)
	}
	return places, far
}

// passed returns the minutes at which birds can be at a place of the way, found minute by minute.
func passed(r api.Release, far []int, k, minute int) api.Span {
	low, high := 0, 0
	for (low+1)*r.Speed.High <= far[k] {
		low++
	}
	for high*r.Speed.Low < far[min(k+1, len(far)-1)] {
		high++
	}
	return span(minute+low, minute+high)
}

// safe returns what Safe and Blocks say of a home.
func (m model) safe(home, minute int) (safe int, b api.Block) {
	places, far := wayTo(m.Release, m.Homes[home])
	safe = api.SurelyInside
	for k, p := range places {
		when := passed(m.Release, far, k, minute)
		outside := true
		for now := when.Low; now <= when.High; now++ {
			if !m.inside[m.at(p, now)] && safe == api.SurelyInside {
				safe, b = api.OpenSky, api.Block{Home: home, Step: k, Minute: now}
			}
			outside = outside && m.outside[m.at(p, now)]
		}
		if outside {
			return api.SurelyOutside, b
		}
	}
	return safe, b
}

// isDark tells whether it is dark before a convoy is home, if it is set free at a minute.
func isDark(r api.Release, minute int) bool {
	return slices.ContainsFunc(r.Homes, func(home api.Point) bool {
		_, far := wayTo(r, home)
		return passed(r, far, len(far)-1, minute).High > r.Dark
	})
}

// mayFly tells whether the convoy may be set free at a minute.
func (m model) mayFly(minute int) bool {
	for home := range m.Homes {
		if safe, _ := m.safe(home, minute); safe != api.SurelyInside {
			return false
		}
	}
	return !isDark(m.Release, minute)
}

// A truth is the weather at each spot.
type truth map[spot]sample

// at returns the weather at a place at a minute. After the last hour it can be anything.
func (t truth) at(r *rand.Rand, p api.Point, minute int) sample {
	if s, ok := t[spot{p, minute / hourLong}]; ok {
		return s
	}
	return sample{r.Intn(api.MaxSky + 1), r.Intn(api.MaxSky + 1), r.Intn(api.MaxSky + 1)}
}

// randomRelease returns a valid release, and the weather that there is; its fronts mostly are true.
func randomRelease(r *rand.Rand) (api.Release, truth) {
	low := 20 + r.Intn(150)
	out := api.Release{
		Map:   api.Map{North: 100 + r.Intn(1500), Columns: 1 + r.Intn(6), Lofts: 1},
		Speed: span(low, low+r.Intn(150)), Hours: 1 + r.Intn(5), Dark: r.Intn(500),
	}
	if r.Intn(4) > 0 {
		out.Dark += 1000
	}
	for range 1 + r.Intn(6) {
		out.Map.East = append(out.Map.East, 100+r.Intn(1500))
	}
	out.Base = randomPlace(r, out.Map)
	for range r.Intn(4) {
		out.Homes = append(out.Homes, randomPlace(r, out.Map))
	}
	// the less is not known, the laxer the limits have to be, or nothing is surely inside
	slack := r.Intn(40)
	out.Limits = api.Limits{Wind: 125 + slack + r.Intn(30), Sight: 115 - slack - r.Intn(30), Heat: 125 + slack + r.Intn(30)}
	weather := randomTruth(r, out)
	for hour := range out.Hours {
		if r.Intn(8) > 0 {
			out.Fronts = append(out.Fronts, randomFront(r, span(hour, hour), span(0, out.Map.Columns-1), span(0, len(out.Map.East)-1), weather, slack))
		}
	}
	for range r.Intn(5) {
		out.Fronts = append(out.Fronts, narrowFront(r, out, weather))
	}
	r.Shuffle(len(out.Fronts), func(i, j int) { out.Fronts[i], out.Fronts[j] = out.Fronts[j], out.Fronts[i] })
	return out, weather
}

func randomPlace(r *rand.Rand, m api.Map) api.Point {
	return at(r.Intn(m.Columns), r.Intn(len(m.East)))
}

// randomTruth returns a weather from 100 to 140, of which one number can become bad in the last hours, at many places or
// at all of them.
func randomTruth(r *rand.Rand, of api.Release) truth {
	out := truth{}
	from, kind, often := 1+r.Intn(2*of.Hours), r.Intn(3), r.Intn(2)
	bad := sample{200, -100, 200}
	for _, s := range spots(of) {
		w := sample{100 + r.Intn(25), 115 + r.Intn(25), 100 + r.Intn(25)}
		if s.hour >= from && (often > 0 || r.Intn(2) > 0) {
			w[kind] += bad[kind]
		}
		out[s] = w
	}
	return out
}

// randomFront returns a front of some spots that is true, up to so much more than is so.
func randomFront(r *rand.Rand, hours, x, y api.Span, weather truth, slack int) api.Front {
	f := front(hours, x, y, api.Sky{})
	var spans [3]api.Span
	for kind := range spans {
		low, high := api.MaxSky, 0
		for s, w := range weather {
			if s.isOf(f) {
				low, high = min(low, w[kind]), max(high, w[kind])
			}
		}
		spans[kind] = span(max(0, low-r.Intn(slack+1)), min(api.MaxSky, high+r.Intn(slack+1)))
	}
	f.Sky = api.Sky{Wind: spans[0], Sight: spans[1], Heat: spans[2]}
	return f
}

// narrowFront returns a front of few spots, which mostly is true.
func narrowFront(r *rand.Rand, of api.Release, weather truth) api.Front {
	f := randomFront(r, part(r, of.Hours), part(r, of.Map.Columns), part(r, len(of.Map.East)), weather, 10)
	if r.Intn(8) == 0 {
		s := part(r, 200)
		*[]*api.Span{&f.Sky.Wind, &f.Sky.Sight, &f.Sky.Heat}[r.Intn(3)] = s
	}
	return f
}

// part returns a span of numbers below n.
func part(r *rand.Rand, n int) api.Span {
	a, b := r.Intn(n), r.Intn(n)
	return span(min(a, b), max(a, b))
}
