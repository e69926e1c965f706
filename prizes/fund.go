package prizes

import (
	"cmp"
	"iter"
	"slices"

	"squeaker/api"
)

// whole is the number of thousandths of an amount.
const whole = 1000

// The days of a racer.
const (
	notHome   = 0
	firstDay  = 1
	secondDay = 2
)

// A fund is a pool of a valid race, the birds that are nominated for it, ascending, and the protests of the race.
type fund struct {
	api.Pool
	racers   []api.Racer
	protests []int
}

// question returns the fund of a pool, for a question about it and some birds that are nominated for it.
func question(r api.Race, pool int, birds ...int) (fund, api.Errno) {
	if e := Check(r); e != api.OK {
		return fund{}, e
	}
	if !isPool(r, pool) {
		return fund{}, api.ErrArg
	}
	f := open(r, pool)
	if !each(birds, func(bird int) bool { return hasBird(f.racers, bird) }) {
		return fund{}, api.ErrArg
	}
	return f, api.OK
}

// open returns the fund of a pool of a valid race.
func open(r api.Race, pool int) fund {
	f := fund{Pool: r.Pools[pool], protests: r.Protests}
	for _, x := range r.Racers {
		if slices.Contains(x.Pools, pool) {
			f.racers = append(f.racers, x)
		}
	}
	slices.SortFunc(f.racers, func(a, b api.Racer) int { return cmp.Compare(a.Bird, b.Bird) })
	return f
}

func (f fund) total() int { return f.Stake * len(f.racers) }

// kept returns what the club keeps.
func (f fund) kept() int { return f.total() * f.Cut / whole }

func (f fund) left() int { return f.total() - f.kept() }

// places returns the amounts of the places.
func (f fund) places() []int {
	left := f.left()
	var places []int
	switch f.Kind {
	case api.ByTable:
		for _, n := range f.Table {
			places = append(places, left*n/whole)
		}
	case api.ByQuota:
		n := (len(f.racers) + f.Quota - 1) / f.Quota
		for range n {
			places = append(places, left/n)
		}
	case api.ToFirst:
		places = append(places, left)
	}
	return places
}

// takers returns the birds that can take places if some birds are struck, in the order in which they take them; those
// that tie ascending.
func (f fund) takers(struck ...int) []api.Racer {
	takers := slices.DeleteFunc(slices.Clone(f.racers), func(x api.Racer) bool {
		return x.Day == notHome || f.FirstDay && x.Day != firstDay || slices.Contains(struck, x.Bird)
	})
	slices.SortStableFunc(takers, func(a, b api.Racer) int {
		return cmp.Or(cmp.Compare(a.Day, b.Day), cmp.Compare(a.Rank, b.Rank))
	})
	return takers
}

// order returns the rings of the birds that can take places if some birds are struck, those that tie together.
func (f fund) order(struck ...int) [][]int {
	var order [][]int
	before := api.Racer{Day: notHome} // ties with nobody, as all that take places are home
	for _, x := range f.takers(struck...) {
		if x.Day != before.Day || x.Rank != before.Rank {
			order = append(order, nil)
		}
		last := len(order) - 1
		order[last] = append(order[last], x.Bird)
		before = x
	}
	return order
}

// won returns what the birds that can take places win if some birds are struck.
func (f fund) won(struck ...int) map[int]int {
	won := map[int]int{}
	places := f.places()
	for _, tied := range f.order(struck...) {
		taken := min(len(tied), len(places))
		share := shares(sum(places[:taken]), len(tied))
		places = places[taken:]
		for i, bird := range tied {
			won[bird] = share(i)
		}
	}
	return won
}

// rest returns what is left, but what was won.
func (f fund) rest(won map[int]int) int {
	rest := f.left()
	for _, amount := range won {
		rest -= amount
	}
	return rest
}

// prizes returns what each bird has won, and what goes back, in the order of the racers.
func (f fund) prizes() []api.Prize {
	won := f.won()
	back := shares(f.rest(won), len(f.racers))
	var prizes []api.Prize
	for i, x := range f.racers {
		prizes = append(prizes, api.Prize{Bird: x.Bird, Won: won[x.Bird], Back: back(i)})
	}
	return prizes
}

// cases yields for each way in which the protests can end the birds that are struck.
func (f fund) cases() iter.Seq[[]int] {
	return func(yield func([]int) bool) {
		for n := range 1 << len(f.protests) {
			var struck []int
			for i, bird := range f.protests {
				if n>>i&1 == 1 {
					struck = append(struck, bird)
				}
			}
			if !yield(struck) {
				return
			}
		}
	}
}

// shares returns what of an amount each of some birds gets, by its number among them. The first ones get the cents that
// remain.
func shares(amount, birds int) func(i int) int {
	return func(i int) int {
		share := amount / birds
		if i < amount%birds {
			share++
		}
		return share
	}
}

func sum(amounts []int) int {
	all := 0
	for _, amount := range amounts {
		all += amount
	}
	return all
}
