package strays

import (
	"maps"
	"slices"

	"squeaker/api"
	"squeaker/owners"
)

// An office is a valid pound, what is known of its finds, each of them once, and the truths.
type office struct {
	api.Pound
	reports []report
	truths  []truth
}

// A report is a find, and all birds that it fits, in ascending order.
type report struct {
	api.Find
	fits []int
}

// A truth has the bird that each report means.
type truth [api.MaxFinds]int

// open returns the office of a pound, with the reports of all finds, and without truths.
func open(p api.Pound) (*office, api.Errno) {
	if e := Check(p); e != api.OK {
		return nil, e
	}
	o := &office{Pound: p}
	for _, f := range o.Finds {
		if o.numberOf(f.Id) < 0 {
			o.reports = append(o.reports, report{Find: f, fits: fitting(f, o.Stud.Flock)})
		}
	}
	return o, api.OK
}

// question returns the office of a pound, with the reports of all finds that are not strange, and the numbers of those
// of some finds, by their Ids.
func question(p api.Pound, finds ...int) (o *office, named []int, e api.Errno) {
	o, e = open(p)
	if e != api.OK {
		return nil, nil, e
	}
	o.reports = slices.DeleteFunc(o.reports, report.isStrange)
	if o.isCrowded() {
		return nil, nil, api.ErrMany
	}
	for _, id := range finds {
		named = append(named, o.numberOf(id))
	}
	if slices.Contains(named, -1) {
		return nil, nil, api.ErrArg
	}
	o.addTruths(truth{}, 0)
	if len(o.truths) == 0 {
		return nil, nil, api.ErrNone
	}
	return o, named, api.OK
}

// numberOf returns the number of the report with an Id, -1 if there is none.
func (o *office) numberOf(id int) int {
	return slices.IndexFunc(o.reports, func(r report) bool { return r.Id == id })
}

// isCrowded tells whether there can be too many ownerships, or truths.
func (o *office) isCrowded() bool {
	if _, e := owners.Truths(o.Stud, 0); e != api.OK {
		return true
	}
	many := 1
	for _, r := range o.reports {
		many *= len(r.fits)
	}
	return many > api.MaxTrees
}

// addTruths adds all truths in which the first reports, as many as are known, mean the same birds as in t.
func (o *office) addTruths(t truth, known int) {
	if known == len(o.reports) {
		o.truths = append(o.truths, t)
		return
	}
	for _, bird := range o.reports[known].fits {
		if o.canMean(t, known, bird) {
			t[known] = bird
			o.addTruths(t, known+1)
		}
	}
}

// canMean tells whether a report can mean a bird, beside what those before it mean.
func (o *office) canMean(t truth, number, bird int) bool {
	for i, before := range o.reports[:number] {
		if t[i] == bird && !o.canBeOne(before, o.reports[number]) {
			return false
		}
	}
	return true
}

// canBeOne tells whether two reports can mean the same bird, which needs some days from a place to another one.
func (o *office) canBeOne(a, b report) bool {
	return a.Place == b.Place || max(a.Day-b.Day, b.Day-a.Day) >= o.Apart
}

// birds returns all birds that a report means in some truth, in ascending order.
func (o *office) birds(number int) []int {
	found := map[int]bool{}
	for _, t := range o.truths {
		found[t[number]] = true
	}
	return slices.Sorted(maps.Keys(found))
}

// leads returns all members to whom a report leads, in ascending order.
func (o *office) leads(number int) []int {
	found := map[int]bool{}
	for _, bird := range o.birds(number) {
		who, _ := owners.Owners(o.Stud, o.reports[number].Day, bird)
		for _, member := range who {
			found[member] = true
		}
	}
	return slices.Sorted(maps.Keys(found))
}

func (r report) isStrange() bool { return len(r.fits) == 0 }

// fitting returns all birds of a flock that a find fits, in ascending order.
func fitting(f api.Find, flock api.Flock) []int {
	var birds []int
	for i, b := range flock.Birds {
		if fits(f, b) {
			birds = append(birds, i)
		}
	}
	return birds
}

func fits(f api.Find, b api.Bird) bool {
	rest := b.Ring
	for _, digit := range slices.Backward(f.Digits) {
		if digit != unread && digit != rest%10 {
			return false
		}
		rest /= 10
	}
	return f.Sex == unseen || f.Sex == b.Sex
}
