package secretary_test

import (
	"cmp"
	"fmt"
	"maps"
	"math/rand"
	"regexp"
	"slices"
	"strconv"
	"strings"

	"squeaker/api"
	"squeaker/clocks"
	"squeaker/owners"
	"squeaker/prizes"
)

// A book is a club as the model knows it: messages by their Ids, and birds of the race by their rings.
type book struct {
	first    api.Club
	day      int
	deeds    map[int]api.Deed
	voided   map[int]bool
	strikes  [][]api.Strike
	order    []int
	entries  map[int]entry
	protests map[int]bool
}

// An entry is a bird of the race, and the pools for which it is nominated.
type entry struct {
	owner, rank, day int
	pools            map[int]bool
}

// modelOf returns the book of a valid club at first.
func modelOf(c api.Club) *book {
	b := &book{first: c, deeds: map[int]api.Deed{}, voided: map[int]bool{}, entries: map[int]entry{}, protests: map[int]bool{}}
	for _, d := range c.Stud.Deeds {
		b.deeds[d.Id] = d
	}
	for _, id := range c.Stud.Voided {
		b.voided[id] = true
	}
	for _, one := range c.Clocks {
		b.strikes = append(b.strikes, slices.Clone(one.Strikes))
	}
	for _, x := range c.Race.Racers {
		b.order = append(b.order, x.Bird)
		b.entries[x.Bird] = entry{x.Owner, x.Rank, x.Day, map[int]bool{}}
		for _, pool := range x.Pools {
			b.entries[x.Bird].pools[pool] = true
		}
	}
	for _, bird := range c.Race.Protests {
		b.protests[bird] = true
	}
	return b
}

// ledger returns the ledger of a book.
func (b *book) ledger() api.Ledger {
	c := b.first
	c.Stud.Deeds = slices.SortedFunc(maps.Values(b.deeds), func(a, b api.Deed) int { return cmp.Compare(a.Id, b.Id) })
	c.Stud.Voided = slices.Sorted(maps.Keys(b.voided))
	c.Clocks = slices.Clone(c.Clocks)
	for i := range c.Clocks {
		c.Clocks[i].Strikes = b.strikes[i]
	}
	c.Race.Racers = nil
	for _, bird := range b.order {
		x := b.entries[bird]
		c.Race.Racers = append(c.Race.Racers, racer(bird, x.owner, x.rank, x.day, slices.Sorted(maps.Keys(x.pools))...))
	}
	c.Race.Protests = slices.Sorted(maps.Keys(b.protests))
	return tidy(api.Ledger{Day: b.day, Club: c})
}

var described = regexp.MustCompile(`^([a-z]+)((?: (?:0|[1-9][0-9]{0,5}))+)$`)

// parsed returns the word and the numbers of a line, if it is described.
func parsed(line string) (word string, n []int, ok bool) {
	parts := described.FindStringSubmatch(line)
	if parts == nil {
		return "", nil, false
	}
	for _, part := range strings.Fields(parts[2]) {
		number, _ := strconv.Atoi(part)
		n = append(n, number)
	}
	return parts[1], n, counts()[parts[1]] == len(n)
}

// isQuestion tells whether lines with a word only ask.
func isQuestion(word string) bool {
	return slices.Contains([]string{"owner", "who", "has", "ring", "when", "home", "pot", "prize", "can", "purse"}, word)
}

// answer does what a line says, and returns the answer.
func (b *book) answer(line string) string {
	word, n, ok := parsed(line)
	if !ok {
		return "?"
	}
	if isQuestion(word) {
		return asked(b.ledger(), word, n)
	}
	if word == "strike" {
		return b.strike(n[0], strike(n[1], n[2], n[3]))
	}
	if b.writes(word, n) {
		return "ok"
	}
	return "no"
}

// writes does what a line says, but for a strike, and tells whether that may be.
func (b *book) writes(word string, n []int) bool {
	switch word {
	case "day":
		if n[0] >= b.day && n[0] <= 9999 {
			b.day = n[0]
			return true
		}
	case "deed":
		d := deed(n[0], b.day, n[1], n[2], n[3])
		before, ok := b.deeds[d.Id]
		if d.Id <= 99 && d.Ring <= 9999 && d.From <= 99 && d.To <= 99 && (ok && before == d || !ok && len(b.deeds) < 20) {
			b.deeds[d.Id] = d
			return true
		}
	case "recall":
		if n[0] <= 99 && (b.voided[n[0]] || len(b.voided) < 20) {
			b.voided[n[0]] = true
			return true
		}
	}
	return b.races(word, n)
}

// races does what a line of the race says, and tells whether that may be.
func (b *book) races(word string, n []int) bool {
	x, is := b.entries[n[0]]
	switch word {
	case "enter":
		if !is && n[0] <= 9999 && n[1] <= 99 && len(b.order) < 12 {
			b.order = append(b.order, n[0])
			b.entries[n[0]] = entry{owner: n[1], pools: map[int]bool{}}
			return true
		}
	case "name":
		if is && n[1] < len(b.first.Race.Pools) && !x.pools[n[1]] {
			x.pools[n[1]] = true
			return true
		}
	case "rank":
		atHome := n[1] >= 1 && n[1] <= 12 && (n[2] == 1 || n[2] == 2)
		if is && (atHome || n[1] == 0 && n[2] == 0) {
			x.rank, x.day = n[1], n[2]
			b.entries[n[0]] = x
			return true
		}
	case "protest":
		if is && !b.protests[n[0]] && len(b.protests) < 4 {
			b.protests[n[0]] = true
			return true
		}
	case "settle":
		if b.protests[n[0]] && n[1] < 2 {
			delete(b.protests, n[0])
			if n[1] == 1 {
				x.rank, x.day = 0, 0
				b.entries[n[0]] = x
			}
			return true
		}
	}
	return false
}

// strike adds a strike to a clock, and returns the answer.
func (b *book) strike(clock int, s api.Strike) string {
	if clock >= len(b.strikes) || len(b.strikes[clock]) == 8 {
		return "no"
	}
	c := b.first.Clocks[clock]
	if s.At > 3600*c.Hours || s.Shown.Low > s.Shown.High || s.Shown.High > 99999 {
		return "no"
	}
	c.Strikes = append(slices.Clone(b.strikes[clock]), s)
	if len(truths(c)) == 0 {
		return "liar"
	}
	b.strikes[clock] = c.Strikes
	return "ok"
}

// sequences returns all gains within Drift, hour by hour, of which those of two hours that follow each other differ by
// at most Step.
func sequences(c api.Clock) [][]int {
	all := [][]int{nil}
	for i := range c.Hours {
		var longer [][]int
		for _, gains := range all {
			for gain := c.Drift.Low; gain <= c.Drift.High; gain++ {
				if i == 0 || max(gain-gains[i-1], gains[i-1]-gain) <= c.Step {
					longer = append(longer, append(gains[:i:i], gain))
				}
			}
		}
		all = longer
	}
	return all
}

// shows returns what a clock shows at a real time.
func shows(c api.Clock, gains []int, t int) int {
	number := c.Shown
	for i := range t / 3600 {
		number += 3600 + gains[i]
	}
	if p := t % 3600; p > 0 {
		number += p * (3600 + gains[t/3600]) / 3600
	}
	return number
}

// isTrue tells whether a strike is true if a clock gains so much.
func isTrue(c api.Clock, gains []int, s api.Strike) bool {
	number := shows(c, gains, s.At)
	return s.Shown.Low <= number && number <= s.Shown.High
}

// truths returns all truths of a clock.
func truths(c api.Clock) [][]int {
	return slices.DeleteFunc(sequences(c), func(gains []int) bool {
		return slices.ContainsFunc(c.Strikes, func(s api.Strike) bool { return !isTrue(c, gains, s) })
	})
}

// asked returns what the layers below say to a question for a ledger, as it is written in an answer.
func asked(l api.Ledger, word string, n []int) string {
	switch word {
	case "owner", "who", "has", "ring":
		return askedStud(l.Club.Stud, l.Day, word, n[0])
	case "when", "home":
		if n[0] >= len(l.Club.Clocks) {
			return "no"
		}
		if word == "when" {
			s, e := clocks.When(l.Club.Clocks[n[0]], n[1])
			return shown(e, s.Low, s.High)
		}
		s, e := clocks.Home(l.Club.Clocks[n[0]], api.Clocking{Shown: n[1], Late: n[2]})
		return shown(e, s.Low, s.High)
	}
	return askedRace(l.Club.Race, word, n)
}

func askedStud(s api.Stud, day int, word string, n int) string {
	switch word {
	case "owner":
		member, e := owners.Owner(s, day, n)
		return shown(e, member)
	case "who":
		members, e := owners.Owners(s, day, n)
		return shown(e, members...)
	case "ring":
		members, e := owners.Ring(s, day, n)
		return shown(e, members...)
	}
	sure, may, e := owners.Birds(s, day, n)
	if e != api.OK {
		return shown(e)
	}
	return shown(e, sure...) + " / " + shown(e, may...)
}

func askedRace(r api.Race, word string, n []int) string {
	switch word {
	case "pot":
		p, e := prizes.Pot(r, n[0])
		return shown(e, p.Total, p.Cut, p.Left, p.Rest)
	case "can":
		s, e := prizes.Can(r, n[0], n[1])
		return shown(e, s.Low, s.High)
	case "prize":
		list, _ := prizes.Prizes(r, n[0])
		for _, p := range list {
			if p.Bird == n[1] {
				return shown(api.OK, p.Won, p.Back)
			}
		}
		return "no"
	}
	purses, _ := prizes.Purses(r)
	for _, p := range purses {
		if p.Owner == n[0] {
			return shown(api.OK, p.Staked, p.Paid)
		}
	}
	return "none"
}

// shown returns numbers or an error as they are written in an answer.
func shown(e api.Errno, n ...int) string {
	if words := map[api.Errno]string{api.ErrNone: "none", api.ErrMany: "many"}; e != api.OK {
		return cmp.Or(words[e], "no")
	}
	return cmp.Or(strings.Trim(fmt.Sprint(n), "[]"), "none")
}

const (
	lastDay    = 6
	lastMember = 4
	lastRing   = 3
	lastId     = 21
	lastRacer  = 13
	lastOwner  = 4
)

// randomClub returns a valid club with few birds, members, days, rings and owners.
func randomClub(r *rand.Rand) api.Club {
	c := api.Club{Stud: randomStud(r), Race: randomRace(r)}
	for range r.Intn(api.MaxClocks + 1) {
		c.Clocks = append(c.Clocks, randomClock(r))
	}
	return c
}

// randomStud returns a valid stud, in which deeds stand in any order, some of them twice. Now and then there are too many
// truths, or would be after one more deed.
func randomStud(r *rand.Rand) api.Stud {
	var s api.Stud
	if r.Intn(12) == 0 {
		s.Flock.Birds, s.Firsts = slices.Repeat([]api.Bird{bird(0, api.Cock)}, 8), make([]int, 8)
		for i := range 2 + r.Intn(2) {
			s.Deeds = append(s.Deeds, deed(i, r.Intn(lastDay), 0, 0, 1+i))
		}
		return s
	}
	for range max(r.Intn(7), r.Intn(7)) {
		s.Flock.Birds = append(s.Flock.Birds, bird(min(r.Intn(lastRing), r.Intn(lastRing)), 1+r.Intn(2)))
		s.Firsts = append(s.Firsts, r.Intn(lastMember))
	}
	for _, id := range r.Perm(lastId + 1)[:r.Intn(6)] {
		s.Deeds = append(s.Deeds, deed(id, r.Intn(lastDay), r.Intn(lastRing), r.Intn(lastMember), r.Intn(lastMember)))
	}
	for range r.Intn(1 + len(s.Deeds)) {
		s.Deeds = append(s.Deeds, s.Deeds[r.Intn(len(s.Deeds))])
	}
	for range r.Intn(3) * r.Intn(2) {
		s.Voided = append(s.Voided, r.Intn(lastId+1))
	}
	return s
}

// randomClock returns a valid clock with few gains, most of whose strikes are true.
func randomClock(r *rand.Rand) api.Clock {
	c := api.Clock{Hours: 1 + r.Intn(3), Shown: r.Intn(2) * r.Intn(80000)}
	for {
		c.Drift.Low = r.Intn(19) - 9
		c.Drift.High = min(9, c.Drift.Low+r.Intn(8))
		c.Step = r.Intn(5)
		if len(sequences(c)) <= 60 {
			break
		}
	}
	for range r.Intn(3) {
		c.Strikes = append(c.Strikes, randomStrike(r, c))
	}
	return c
}

// randomStrike returns a strike of a clock that is near what it can show.
func randomStrike(r *rand.Rand, c api.Clock) api.Strike {
	t := randomTime(r, c)
	all := sequences(c)
	low := max(0, shows(c, all[r.Intn(len(all))], t)-r.Intn(4)+r.Intn(2))
	return strike(t, low, low+r.Intn(5))
}

// randomTime returns a real time of a clock, often the end of an hour.
func randomTime(r *rand.Rand, c api.Clock) int {
	if r.Intn(2) == 0 {
		return 3600 * r.Intn(c.Hours+1)
	}
	return r.Intn(3600*c.Hours + 1)
}

// randomRace returns a valid race, in which many birds tie.
func randomRace(r *rand.Rand) api.Race {
	var race api.Race
	for range r.Intn(5) {
		race.Pools = append(race.Pools, randomPool(r))
	}
	for _, bird := range r.Perm(lastRacer + 1)[:r.Intn(10)] {
		x := racer(bird, r.Intn(lastOwner+1), 0, 0)
		if r.Intn(4) > 0 {
			x.Rank, x.Day = 1+r.Intn(6), 1+r.Intn(2)
		}
		for pool := range race.Pools {
			if r.Intn(3) > 0 {
				x.Pools = append(x.Pools, pool)
			}
		}
		race.Racers = append(race.Racers, x)
	}
	for _, i := range r.Perm(len(race.Racers))[:min(r.Intn(4), len(race.Racers))] {
		race.Protests = append(race.Protests, race.Racers[i].Bird)
	}
	slices.Sort(race.Protests)
	return race
}

func randomPool(r *rand.Rand) api.Pool {
	p := api.Pool{Stake: r.Intn(60), Cut: r.Intn(2) * r.Intn(1001), FirstDay: r.Intn(3) == 0}
	switch r.Intn(3) {
	case 0:
		p.Kind, p.Table = api.ByTable, [][]int{{500, 300, 200}, {1000}, {100, 200, 700}, {333, 333}, {0, 5, 0, 900}}[r.Intn(5)]
	case 1:
		p.Kind, p.Quota = api.ByQuota, 1+r.Intn(5)
	default:
		p.Kind = api.ToFirst
	}
	return p
}

// randomScript returns lines for a club, of which the days go up, and most of the others fit.
func randomScript(r *rand.Rand, c api.Club, lines int) []string {
	words := slices.Sorted(maps.Keys(counts()))
	var script []string
	for i := range lines {
		word := words[r.Intn(len(words))]
		n := randomNumbers(r, c, word, i*lastDay/lines)
		if r.Intn(12) == 0 {
			n[r.Intn(len(n))] = []int{3, 100, 601, 10000, 100000, 999999}[r.Intn(6)]
		}
		line := word + " " + shown(api.OK, n...)
		if r.Intn(20) == 0 {
			line = spoiled(r, line)
		}
		script = append(script, line)
	}
	return script
}

// spoiled returns a line with one byte more or less, or another one.
func spoiled(r *rand.Rand, line string) string {
	at := r.Intn(len(line))
	other := []string{"", " ", "0", "7", "x", "D", line[at:at+1] + " ", line[at:at+1] + "0"}[r.Intn(8)]
	return line[:at] + other + line[at+1:]
}

// randomNumbers returns the numbers behind a word on about a day.
func randomNumbers(r *rand.Rand, c api.Club, word string, day int) []int {
	ring, member, id := min(r.Intn(lastRing+1), r.Intn(lastRing+1)), r.Intn(lastMember+1), r.Intn(lastId+1)
	racer, pool, owner := r.Intn(lastRacer+1), r.Intn(1+len(c.Race.Pools)), r.Intn(lastOwner+2)
	switch word {
	case "day":
		return []int{max(0, day+r.Intn(4)-1)}
	case "deed":
		return []int{id, ring, member, r.Intn(lastMember + 1)}
	case "recall":
		return []int{id}
	case "owner", "who":
		return []int{r.Intn(1 + len(c.Stud.Firsts))}
	case "has":
		return []int{member}
	case "ring":
		return []int{ring}
	case "strike", "when", "home":
		return randomClockNumbers(r, c, word)
	case "enter":
		return []int{racer, owner}
	case "name":
		return []int{racer, pool}
	case "rank":
		if r.Intn(6) == 0 {
			return []int{racer, 0, r.Intn(2)}
		}
		return []int{racer, 1 + r.Intn(6), 1 + r.Intn(2)}
	case "settle":
		if len(c.Race.Protests) > 0 && r.Intn(3) > 0 {
			racer = c.Race.Protests[r.Intn(len(c.Race.Protests))]
		}
		return []int{racer, r.Intn(2)}
	case "protest":
		return []int{racer}
	case "pot":
		return []int{pool}
	case "prize", "can":
		return []int{pool, racer}
	}
	return []int{owner}
}

// randomClockNumbers returns the numbers behind a word about a clock.
func randomClockNumbers(r *rand.Rand, c api.Club, word string) []int {
	n, s := 0, strike(0, 0, 0)
	if len(c.Clocks) > 0 {
		n = r.Intn(len(c.Clocks))
		s = randomStrike(r, c.Clocks[n])
	}
	switch word {
	case "strike":
		return []int{n, s.At, s.Shown.Low, s.Shown.High - r.Intn(2)}
	case "when":
		return []int{n, s.Shown.Low}
	}
	return []int{n, s.Shown.Low, r.Intn(610)}
}
