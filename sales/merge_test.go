package sales_test

import (
	"reflect"
	"slices"
	"testing"

	"squeaker/api"
	"squeaker/sales"
)

// TestMerge: P11.2.
func TestMerge(t *testing.T) {
	bids := example().Bids
	zero, last := bid(0, 40, 1, 3, 1), bid(99, 0, 0, 1, 9)
	mixed := []api.Bid{last, bids[4], bids[2], zero, bids[2], bids[0], last}
	sorted := []api.Bid{zero, bids[0], bids[2], bids[4], last}
	untidy := changed(func(s *api.Sale) {
		slices.Reverse(s.Stud.Deeds)
		s.Stud.Deeds, s.Stud.Voided = append(s.Stud.Deeds, s.Stud.Deeds[2]), []int{9, 2, 9}
		slices.Reverse(s.Lots)
	})
	for name, c := range map[string]struct {
		s            api.Sale
		more         []api.Bid
		recalled     []int
		wantBids     []api.Bid
		wantRecalled []int
	}{
		"nothing":                    {api.Sale{Step: 1}, nil, nil, nil, nil},
		"empty lists":                {with(), []api.Bid{}, []int{}, nil, nil},
		"nothing more":               {example(), nil, nil, bids, nil},
		"bids in another order":      {with(mixed...), nil, nil, sorted, nil},
		"late bids":                  {example(), []api.Bid{last, zero}, nil, slices.Concat([]api.Bid{zero}, bids, []api.Bid{last}), nil},
		"a bid that comes twice":     {with(bids[2]), []api.Bid{bids[2], bids[1], bids[1]}, nil, bids[1:3], nil},
		"the first bids":             {with(), mixed, nil, sorted, nil},
		"a recall":                   {example(), nil, []int{2}, bids, []int{2}},
		"a recall that comes late":   {recalled(2), bids[1:2], []int{5, 2, 2, 0}, bids, []int{0, 2, 5}},
		"recalls alone":              {with(), nil, []int{99, 7, 99, 0}, nil, []int{0, 7, 99}},
		"recalls in another order":   {recalled(4, 3, 99, 3), nil, nil, bids, []int{3, 4, 99}},
		"a bid that is recalled":     {recalled(2), []api.Bid{zero}, []int{0}, slices.Concat([]api.Bid{zero}, bids), []int{0, 2}},
		"all bids and recalls":       {with(many(0, 10)...), many(10, 20), numbers(0, api.MaxBids), many(0, api.MaxBids), numbers(0, api.MaxBids)},
		"all of them twice":          {with(many(0, api.MaxBids)...), many(0, api.MaxBids), nil, many(0, api.MaxBids), nil},
		"one of them often":          {with(slices.Repeat(many(3, 1), api.MaxBids)...), slices.Concat(many(4, 29), many(5, 1)), nil, many(3, api.MaxBids), nil},
		"recalls that overlap":       {recalled(numbers(1, 20)...), nil, numbers(11, 20), bids, numbers(1, api.MaxBids)},
		"deeds and lots as they are": {untidy, []api.Bid{zero}, nil, slices.Concat([]api.Bid{zero}, bids), nil},
	} {
		got, e := sales.Merge(c.s, c.more, c.recalled)
		want := c.s
		want.Bids, want.Recalled = c.wantBids, c.wantRecalled
		if e != api.OK || !sameSale(got, want) {
			t.Errorf("%s: Merge = %+v, %d, not %+v", name, got, e, want)
		}
	}
	for name, s := range crowded() {
		if got, e := sales.Merge(s, s.Bids, nil); e != api.OK || !sameSale(got, s) {
			t.Errorf("%s: Merge = %+v, %d", name, got, e)
		}
	}
}

// expectNoMerge checks that Merge has an error, and nothing beside it.
func expectNoMerge(t *testing.T, name string, s api.Sale, more []api.Bid, recalled []int, want api.Errno) {
	t.Helper()
	if got, e := sales.Merge(s, more, recalled); e != want || !reflect.DeepEqual(got, api.Sale{}) {
		t.Errorf("%s: Merge = %+v, %d, not %d", name, got, e, want)
	}
}

// TestMergeErrors: P11.2 and P1, the errors of Merge in their order.
func TestMergeErrors(t *testing.T) {
	twins := []api.Bid{bid(40, 1, 0, 1, 1), bid(40, 1, 0, 2, 1)}
	other := []api.Bid{bid(1, 12, 0, 7, 1501)}
	wrong := []api.Bid{bid(50, 1, 2, 1, 1)}
	full := with(many(0, api.MaxBids)...)
	allRecalled := recalled(numbers(0, api.MaxBids)...)
	for name, c := range map[string]struct {
		s        api.Sale
		more     []api.Bid
		recalled []int
		want     api.Errno
	}{
		"late bids that clash":             {example(), twins, nil, api.ErrBid},
		"bids of both that clash":          {example(), other, nil, api.ErrBid},
		"a recalled bid that clashes":      {recalled(1), other, []int{1}, api.ErrBid},
		"a late bid that is not valid":     {example(), wrong, nil, api.ErrSale},
		"a late recall that is not valid":  {example(), nil, []int{1, 100}, api.ErrSale},
		"a late recall below 0":            {example(), nil, []int{-1}, api.ErrSale},
		"too many late bids":               {with(), many(0, api.MaxBids+1), nil, api.ErrSale},
		"too many equal late bids":         {with(), slices.Repeat(many(1, 1), api.MaxBids+1), nil, api.ErrSale},
		"too many late recalls":            {example(), nil, numbers(0, api.MaxBids+1), api.ErrSale},
		"too many equal late recalls":      {example(), nil, slices.Repeat([]int{1}, api.MaxBids+1), api.ErrSale},
		"too many bids in all":             {full, many(30, 1), nil, api.ErrSale},
		"half of them too many":            {with(many(0, 16)...), many(15, 16), nil, api.ErrSale},
		"too many bids that are recalled":  {full, many(30, 1), []int{30, 0}, api.ErrSale},
		"too many recalls in all":          {allRecalled, nil, []int{99}, api.ErrSale},
		"a clash before what is not valid": {with(twins...), wrong, nil, api.ErrBid},
		"what is not valid before a clash": {changed(func(s *api.Sale) { s.Step = 0 }), twins, nil, api.ErrSale},
		"a late bid before a clash":        {example(), slices.Concat(wrong, other, twins), nil, api.ErrSale},
		"a clash before too many bids":     {full, append(many(30, 1), bid(3, 4, 0, 1, 2)), nil, api.ErrBid},
		"a clash before too many recalls":  {allRecalled, other, []int{99}, api.ErrBid},
	} {
		expectNoMerge(t, name, c.s, c.more, c.recalled, c.want)
	}
	for name, s := range wrongStuds() {
		expectNoMerge(t, name, s, wrong, []int{-1}, studError(t, s))
	}
	for name, s := range invalid() {
		expectNoMerge(t, name, s, twins, []int{-1}, api.ErrSale)
	}
	for name, s := range clashing() {
		expectNoMerge(t, name, s, nil, nil, api.ErrBid)
		expectNoMerge(t, name+", late", with(), s.Bids, s.Recalled, api.ErrBid)
	}
	for name, s := range invalid() {
		first := s
		first.Bids, first.Recalled = nil, nil
		if sales.Check(first) == api.OK {
			expectNoMerge(t, name+", late", first, s.Bids, s.Recalled, api.ErrSale)
		}
	}
}

// TestMemory: P1 with R4, no argument is changed, and a merged sale shares no memory with one.
func TestMemory(t *testing.T) {
	s := changed(func(s *api.Sale) {
		s.Stud.Flock.Birds[2].Born = api.Span{Low: 1, High: 2}
		s.Stud.Flock.Birds[2].Sires, s.Stud.Flock.Birds[2].Dams = []int{0}, []int{1}
		s.Stud.Voided, s.Recalled = []int{9, 7}, []int{9, 2}
		slices.Reverse(s.Stud.Deeds)
		slices.Reverse(s.Bids)
	})
	more, late := []api.Bid{bid(12, 1, 0, 1, 1), bid(11, 1, 0, 1, 1)}, []int{5, 4}
	before := copied(s)
	ask(s, question{0, 30, 7})
	merged, e := sales.Merge(s, more, late)
	if e != api.OK || !sameSale(s, before) || more[0].Id != 12 || late[0] != 5 {
		t.Errorf("an argument is changed: %+v, %v, %v, %d", s, more, late, e)
	}
	spoil(merged)
	if !sameSale(s, before) || more[0].Id != 12 || late[0] != 5 {
		t.Errorf("a result shares memory: %+v, %v, %v", s, more, late)
	}
	// nothing more is known, and all stands in its order already
	tidy := before
	tidy.Stud.Voided, tidy.Recalled = []int{7, 9}, []int{2, 9}
	slices.Reverse(tidy.Stud.Deeds)
	slices.Reverse(tidy.Bids)
	same := copied(tidy)
	if merged, e = sales.Merge(tidy, nil, nil); e != api.OK || !sameSale(merged, same) {
		t.Errorf("an equal result is changed: %+v, %d", merged, e)
	}
	spoil(merged)
	if !sameSale(tidy, same) {
		t.Errorf("an equal result shares memory: %+v", tidy)
	}
}

// spoil changes all that can be shared of a sale whose bird 2 has parents.
func spoil(s api.Sale) {
	s.Stud.Flock.Birds[2].Sires[0], s.Stud.Flock.Birds[2].Dams[0] = 77, 77
	s.Stud.Flock.Birds[0].Ring, s.Stud.Firsts[0] = 77, 77
	for _, list := range [][]int{s.Stud.Voided, s.Recalled} {
		for i := range list {
			list[i] = 77
		}
	}
	clear(s.Stud.Deeds)
	clear(s.Lots)
	clear(s.Bids)
}

// sameSale tells whether two sales are equal, nil and empty slices too.
func sameSale(a, b api.Sale) bool {
	return slices.EqualFunc(a.Stud.Flock.Birds, b.Stud.Flock.Birds, func(x, y api.Bird) bool {
		return x.Ring == y.Ring && x.Sex == y.Sex && x.Born == y.Born && slices.Equal(x.Sires, y.Sires) && slices.Equal(x.Dams, y.Dams)
	}) && slices.Equal(a.Stud.Firsts, b.Stud.Firsts) &&
		slices.Equal(a.Stud.Deeds, b.Stud.Deeds) && slices.Equal(a.Stud.Voided, b.Stud.Voided) &&
		slices.Equal(a.Lots, b.Lots) && slices.Equal(a.Bids, b.Bids) && slices.Equal(a.Recalled, b.Recalled) &&
		a.Step == b.Step && a.Extra == b.Extra && a.Mille == b.Mille
}

// copied returns an equal sale that shares no memory.
func copied(s api.Sale) api.Sale {
	s.Stud.Flock.Birds = slices.Clone(s.Stud.Flock.Birds)
	for i, b := range s.Stud.Flock.Birds {
		s.Stud.Flock.Birds[i].Sires, s.Stud.Flock.Birds[i].Dams = slices.Clone(b.Sires), slices.Clone(b.Dams)
	}
	s.Stud.Firsts, s.Stud.Deeds, s.Stud.Voided = slices.Clone(s.Stud.Firsts), slices.Clone(s.Stud.Deeds), slices.Clone(s.Stud.Voided)
	s.Lots, s.Bids, s.Recalled = slices.Clone(s.Lots), slices.Clone(s.Bids), slices.Clone(s.Recalled)
	return s
}
