package prizes_test

import (
	"math/rand"
	"slices"

	"squeaker/api"
)

// A model is what the chapter says of a pool, cent by cent, without protests.
type model struct {
	total, cut, left, rest int
	places                 []int
	order                  [][]int
	won, back              map[int]int
}

func modelOf(r api.Race, pool int) model {
	p := r.Pools[pool]
	all := nominated(r, pool)
	m := model{total: p.Stake * len(all), won: map[int]int{}, back: map[int]int{}}
	for (m.cut+1)*1000 <= m.total*p.Cut {
		m.cut++
	}
	m.left = m.total - m.cut
	m.places = modelPlaces(p, len(all), m.left)
	m.order = modelOrder(r, pool)
	free := slices.Clone(m.places)
	m.rest = m.left
	for _, tied := range m.order {
		amount := 0
		for range tied {
			if len(free) > 0 {
				amount += free[0]
				free = free[1:]
			}
		}
		deal(amount, tied, m.won)
		m.rest -= amount
	}
	deal(m.rest, all, m.back)
	return m
}

// deal gives the cents of an amount to birds, one to each of them in turn.
func deal(amount int, birds []int, to map[int]int) {
	for cent := range amount {
		to[birds[cent%len(birds)]]++
	}
}

// rings returns those of the birds of a race that are as they must be, ascending.
func rings(r api.Race, is func(x api.Racer) bool) []int {
	var out []int
	for _, x := range r.Racers {
		if is(x) {
			out = append(out, x.Bird)
		}
	}
	slices.Sort(out)
	return out
}

func nominated(r api.Race, pool int) []int {
	return rings(r, func(x api.Racer) bool { return slices.Contains(x.Pools, pool) })
}

func modelPlaces(p api.Pool, birds, left int) []int {
	var out []int
	switch p.Kind {
	case api.ByTable:
		for _, n := range p.Table {
			out = append(out, left*n/1000)
		}
	case api.ByQuota:
		for birds > len(out)*p.Quota {
			out = append(out, 0)
		}
		for i := range out {
			out[i] = left / len(out)
		}
	case api.ToFirst:
		out = []int{left}
	}
	return out
}

func modelOrder(r api.Race, pool int) [][]int {
	var out [][]int
	for day := 1; day <= 2; day++ {
		for rank := 1; rank <= api.MaxRacers; rank++ {
			tied := rings(r, func(x api.Racer) bool {
				return slices.Contains(x.Pools, pool) && x.Day == day && x.Rank == rank && !(r.Pools[pool].FirstDay && day == 2)
			})
			if len(tied) > 0 {
				out = append(out, tied)
			}
		}
	}
	return out
}

// copied returns an equal race that shares no memory.
func copied(r api.Race) api.Race {
	r.Racers, r.Pools, r.Protests = slices.Clone(r.Racers), slices.Clone(r.Pools), slices.Clone(r.Protests)
	for i := range r.Racers {
		r.Racers[i].Pools = slices.Clone(r.Racers[i].Pools)
	}
	for i := range r.Pools {
		r.Pools[i].Table = slices.Clone(r.Pools[i].Table)
	}
	return r
}

// settled returns a race after a protest of it was decided.
func settled(r api.Race, bird int, upheld bool) api.Race {
	r = copied(r)
	r.Protests = slices.DeleteFunc(r.Protests, func(other int) bool { return other == bird })
	for i := range r.Racers {
		if upheld && r.Racers[i].Bird == bird {
			r.Racers[i].Rank, r.Racers[i].Day = 0, 0
		}
	}
	return r
}

// ends returns the race after all its protests were decided, once for each way.
func ends(r api.Race) []api.Race {
	if len(r.Protests) == 0 {
		return []api.Race{r}
	}
	bird := r.Protests[0]
	return append(ends(settled(r, bird, false)), ends(settled(r, bird, true))...)
}

// modelCan returns the least and the greatest amount that a bird wins, by all ends.
func modelCan(r api.Race, pool, bird int) api.Span {
	can := api.Span{Low: 1 << 40}
	for _, end := range ends(r) {
		won := modelOf(end, pool).won[bird]
		can = api.Span{Low: min(can.Low, won), High: max(can.High, won)}
	}
	return can
}

// modelFirst returns the birds that are among the first ones by each end, and by some of them only.
func modelFirst(r api.Race, pool int) (sure, maybe []int) {
	for _, bird := range nominated(r, pool) {
		all, some := true, false
		for _, end := range ends(r) {
			order := modelOrder(end, pool)
			is := len(order) > 0 && slices.Contains(order[0], bird)
			all, some = all && is, some || is
		}
		if all {
			sure = append(sure, bird)
		} else if some {
			maybe = append(maybe, bird)
		}
	}
	return sure, maybe
}

// randomRace returns a valid race, in which many birds tie.
func randomRace(r *rand.Rand) api.Race {
	var race api.Race
	for range r.Intn(5) {
		race.Pools = append(race.Pools, randomPool(r))
	}
	ranks, owners := 1+r.Intn(api.MaxRacers), 1+r.Intn(5)
	for _, bird := range r.Perm(api.MaxRing + 1)[:r.Intn(api.MaxRacers+1)] {
		x := racer(bird, r.Intn(owners), 0, 0)
		if r.Intn(5) > 0 {
			x.Rank, x.Day = 1+r.Intn(ranks), 1+r.Intn(2)
		}
		for pool := range race.Pools {
			if r.Intn(5) > 0 {
				x.Pools = append(x.Pools, pool)
			}
		}
		race.Racers = append(race.Racers, x)
	}
	protests := r.Intn(api.MaxProtests + 1)
	for _, i := range r.Perm(len(race.Racers))[:min(protests, len(race.Racers))] {
		race.Protests = append(race.Protests, race.Racers[i].Bird)
	}
	slices.Sort(race.Protests)
	return race
}

func randomPool(r *rand.Rand) api.Pool {
	p := api.Pool{Stake: r.Intn(60), Kind: 1 + r.Intn(3), FirstDay: r.Intn(3) == 0}
	if r.Intn(2) == 0 {
		p.Cut = r.Intn(1001)
	}
	switch p.Kind {
	case api.ByTable:
		p.Table = randomTable(r)
	case api.ByQuota:
		p.Quota = 1 + r.Intn(1+r.Intn(api.MaxQuota))
	}
	return p
}

// randomTable returns a table, often with the greatest numbers first, often in no order.
func randomTable(r *rand.Rand) []int {
	var out []int
	left := 1000
	for range 1 + r.Intn(api.MaxTable) {
		n := r.Intn(1 + left)
		out = append(out, n)
		left -= n
	}
	slices.Sort(out)
	slices.Reverse(out)
	if r.Intn(2) == 0 {
		r.Shuffle(len(out), func(i, j int) { out[i], out[j] = out[j], out[i] })
	}
	return out
}
