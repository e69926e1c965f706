package owners_test

import (
	"reflect"
	"slices"
	"testing"

	"squeaker/api"
	"squeaker/owners"
)

// TestMerge: P3.2.
func TestMerge(t *testing.T) {
	s := example()
	deeds := s.Deeds
	zero, last := deed(0, 9, 100, 3, 1), deed(99, 0, 102, 1, 9)
	mixed := []api.Deed{last, deeds[4], deeds[2], zero, deeds[2], deeds[0], last}
	for name, c := range map[string]struct {
		s          api.Stud
		more       []api.Deed
		voided     []int
		wantDeeds  []api.Deed
		wantVoided []int
	}{
		"nothing":                  {api.Stud{}, nil, nil, nil, nil},
		"empty lists":              {with(), []api.Deed{}, []int{}, nil, nil},
		"nothing more":             {example(), nil, nil, deeds, nil},
		"deeds in another order":   {with(mixed...), nil, nil, []api.Deed{zero, deeds[0], deeds[2], deeds[4], last}, nil},
		"late deeds":               {example(), []api.Deed{last, zero}, nil, slices.Concat([]api.Deed{zero}, deeds, []api.Deed{last}), nil},
		"a deed that comes twice":  {with(deeds[2]), []api.Deed{deeds[2], deeds[1], deeds[1]}, nil, deeds[1:3], nil},
		"the first deeds":          {with(), mixed, nil, []api.Deed{zero, deeds[0], deeds[2], deeds[4], last}, nil},
		"a recall":                 {example(), nil, []int{2}, deeds, []int{2}},
		"a recall that comes late": {recalled(), deeds[1:2], []int{5, 2, 2, 0}, deeds, []int{0, 2, 5}},
		"recalls alone":            {with(), nil, []int{99, 7, 99, 0}, nil, []int{0, 7, 99}},
		"recalls in another order": {changed(func(s *api.Stud) { s.Voided = []int{4, 3, 99, 3} }), nil, nil, deeds, []int{3, 4, 99}},
		"a deed that is recalled":  {recalled(), []api.Deed{zero}, []int{0}, slices.Concat([]api.Deed{zero}, deeds), []int{0, 2}},
		"all deeds and recalls":    {with(many(0, 10)...), many(10, 10), numbers(0, api.MaxDeeds), many(0, api.MaxDeeds), numbers(0, api.MaxDeeds)},
		"all of them twice":        {with(many(0, api.MaxDeeds)...), many(0, api.MaxDeeds), nil, many(0, api.MaxDeeds), nil},
		"one of them often":        {with(slices.Repeat(many(3, 1), api.MaxDeeds)...), slices.Concat(many(4, 19), many(5, 1)), nil, many(3, api.MaxDeeds), nil},
		"recalls that overlap":     {changed(func(s *api.Stud) { s.Voided = numbers(1, 15) }), nil, numbers(6, 15), deeds, numbers(1, api.MaxDeeds)},
	} {
		got, e := owners.Merge(c.s, c.more, c.voided)
		want := api.Stud{Flock: c.s.Flock, Firsts: c.s.Firsts, Deeds: c.wantDeeds, Voided: c.wantVoided}
		if e != api.OK || !sameStud(got, want) {
			t.Errorf("%s: Merge = %+v, %d, not %+v", name, got, e, want)
		}
	}
	for name, s := range crowded() {
		if got, e := owners.Merge(s, s.Deeds, nil); e != api.OK || !sameStud(got, s) {
			t.Errorf("%s: Merge = %+v, %d", name, got, e)
		}
	}
}

// TestMergeErrors: P3.2 and P1, the errors of Merge in their order.
func TestMergeErrors(t *testing.T) {
	twins := []api.Deed{deed(40, 1, 1, 1, 1), deed(40, 2, 1, 1, 1)}
	other := []api.Deed{deed(1, 5, 100, 1, 4)}
	wrong := []api.Deed{deed(-1, 0, 0, 0, 0)}
	full := with(many(0, api.MaxDeeds)...)
	allRecalled := changed(func(s *api.Stud) { s.Voided = numbers(0, api.MaxDeeds) })
	for name, c := range map[string]struct {
		s      api.Stud
		more   []api.Deed
		voided []int
		want   api.Errno
	}{
		"late deeds that clash":            {example(), twins, nil, api.ErrDeed},
		"deeds of both that clash":         {example(), other, nil, api.ErrDeed},
		"a recalled deed that clashes":     {changed(func(s *api.Stud) { s.Voided = []int{1} }), other, []int{1}, api.ErrDeed},
		"a late deed that is not valid":    {example(), wrong, nil, api.ErrStud},
		"a late recall that is not valid":  {example(), nil, []int{1, 100}, api.ErrStud},
		"a late recall below 0":            {example(), nil, []int{-1}, api.ErrStud},
		"too many late deeds":              {with(), many(0, api.MaxDeeds+1), nil, api.ErrStud},
		"too many equal late deeds":        {with(), slices.Repeat(many(1, 1), api.MaxDeeds+1), nil, api.ErrStud},
		"too many late recalls":            {example(), nil, numbers(0, api.MaxDeeds+1), api.ErrStud},
		"too many equal late recalls":      {example(), nil, slices.Repeat([]int{1}, api.MaxDeeds+1), api.ErrStud},
		"too many deeds in all":            {full, many(20, 1), nil, api.ErrStud},
		"half of them too many":            {with(many(0, 11)...), many(10, 11), nil, api.ErrStud},
		"too many deeds that are recalled": {full, many(20, 1), []int{20, 0}, api.ErrStud},
		"too many recalls in all":          {allRecalled, nil, []int{99}, api.ErrStud},
		"a clash before what is not valid": {with(twins...), wrong, nil, api.ErrDeed},
		"what is not valid before a clash": {changed(func(s *api.Stud) { s.Firsts = nil }), twins, nil, api.ErrStud},
		"a late deed before a clash":       {example(), slices.Concat(wrong, other, twins), nil, api.ErrStud},
		"a clash before too many deeds":    {full, append(many(20, 1), deed(3, 4, 5000, 1, 2)), nil, api.ErrDeed},
		"a clash before too many recalls":  {changed(func(s *api.Stud) { s.Voided = numbers(0, api.MaxDeeds) }), other, []int{99}, api.ErrDeed},
	} {
		got, e := owners.Merge(c.s, c.more, c.voided)
		if e != c.want || !reflect.DeepEqual(got, api.Stud{}) {
			t.Errorf("%s: Merge = %+v, %d, not %d", name, got, e, c.want)
		}
	}
	for name, s := range invalid() {
		if got, e := owners.Merge(s, twins, []int{-1}); e != api.ErrStud || !reflect.DeepEqual(got, api.Stud{}) {
			t.Errorf("%s: Merge = %+v, %d", name, got, e)
		}
	}
	for name, d := range invalidDeeds() {
		if got, e := owners.Merge(example(), []api.Deed{d}, nil); e != api.ErrStud || !reflect.DeepEqual(got, api.Stud{}) {
			t.Errorf("%s: Merge = %+v, %d", name, got, e)
		}
	}
	for name, s := range clashing() {
		if got, e := owners.Merge(s, nil, nil); e != api.ErrDeed || !reflect.DeepEqual(got, api.Stud{}) {
			t.Errorf("%s: Merge = %+v, %d", name, got, e)
		}
		if got, e := owners.Merge(with(), s.Deeds, s.Voided); e != api.ErrDeed || !reflect.DeepEqual(got, api.Stud{}) {
			t.Errorf("%s, late: Merge = %+v, %d", name, got, e)
		}
	}
}

// TestMemory: P1 with R4, no argument is changed, and a merged stud shares no memory with one.
func TestMemory(t *testing.T) {
	s := changed(func(s *api.Stud) {
		s.Flock.Birds[2].Born = api.Span{Low: 1, High: 2}
		s.Flock.Birds[2].Sires, s.Flock.Birds[2].Dams = []int{0}, []int{1}
		s.Voided = []int{9, 2}
		slices.Reverse(s.Deeds)
	})
	more, voided := []api.Deed{deed(8, 1, 100, 1, 1), deed(7, 1, 100, 1, 1)}, []int{5, 4}
	before := copied(s)
	ask(s, question{day: 8, bird: 1, member: 4, ring: 102})
	merged, e := owners.Merge(s, more, voided)
	if e != api.OK || !sameStud(s, before) || more[0].Id != 8 || voided[0] != 5 {
		t.Errorf("an argument is changed: %+v, %v, %v, %d", s, more, voided, e)
	}
	merged.Flock.Birds[0].Ring, merged.Firsts[0] = 77, 77
	merged.Flock.Birds[2].Sires[0], merged.Flock.Birds[2].Dams[0] = 77, 77
	for i := range merged.Deeds {
		merged.Deeds[i] = api.Deed{}
	}
	for i := range merged.Voided {
		merged.Voided[i] = 77
	}
	if !sameStud(s, before) || more[0].Id != 8 || voided[0] != 5 {
		t.Errorf("a result shares memory: %+v, %v, %v", s, more, voided)
	}
	// nothing more is known, and all stands in its order already
	alone := before
	alone.Deeds, alone.Voided = many(1, 3), []int{1, 2}
	merged, _ = owners.Merge(alone, nil, nil)
	merged.Deeds[0].Id, merged.Voided[0] = 77, 77
	merged.Flock.Birds[1].Ring, merged.Firsts[2] = 77, 77
	if !slices.Equal(alone.Deeds, many(1, 3)) || !slices.Equal(alone.Voided, []int{1, 2}) || alone.Flock.Birds[1].Ring != 102 || alone.Firsts[2] != 2 {
		t.Errorf("an equal result shares memory: %+v", alone)
	}
}
