package lofts_test

import (
	"math"
	"reflect"
	"slices"
	"strconv"
	"testing"

	"squeaker/api"
	"squeaker/lofts"
)

func span(low, high int) api.Span { return api.Span{Low: low, High: high} }

func at(x, y int) api.Point { return api.Point{X: x, Y: y} }

func box(loft int, x, y api.Span) api.Survey {
	return api.Survey{Loft: loft, Kind: api.Box, X: x, Y: y}
}

func tape(loft int, from api.Point, dist api.Span) api.Survey {
	return api.Survey{Loft: loft, Kind: api.Tape, At: from, Dist: dist}
}

// example is the map M of the chapter.
func example() api.Map {
	return api.Map{North: 1000, Columns: 4, East: []int{800, 700, 600}, Lofts: 2, Surveys: []api.Survey{
		box(0, span(0, 1), span(0, 0)),
		tape(0, at(3, 0), span(1601, 2400)),
		box(1, span(2, 3), span(1, 2)),
		tape(1, at(0, 0), span(1800, 2300)),
	}}
}

// changed returns the example with something changed.
func changed(change func(m *api.Map)) api.Map {
	m := example()
	change(&m)
	return m
}

// doubtful is the map N of the chapter.
func doubtful() api.Map { return changed(func(m *api.Map) { m.Wrong = 1 }) }

// impossible is a map without a truth: two surveys contradict each other.
func impossible() api.Map {
	return changed(func(m *api.Map) { m.Surveys = append(m.Surveys, box(0, span(2, 3), span(2, 2))) })
}

// free has some lofts and no survey.
func free(columns, rows, lofts int) api.Map {
	return api.Map{North: 1000, Columns: columns, East: slices.Repeat([]int{1000}, rows), Lofts: lofts}
}

// line has one row with a loft for each span of columns, and a millimetre from a column to the next one.
func line(columns ...api.Span) api.Map {
	m := api.Map{North: 1, Columns: api.MaxColumns, East: []int{1}, Lofts: len(columns)}
	for loft, c := range columns {
		m.Surveys = append(m.Surveys, box(loft, c, span(0, 0)))
	}
	return m
}

var huge = []int{math.MinInt, math.MaxInt}

// isLength tells whether a slice of a test can be so long.
func isLength(n int) bool { return 0 <= n && n < 100 }

// invalidMaps returns maps each of which breaks one rule of a map, by what is broken.
func invalidMaps() map[string]api.Map {
	maps := map[string]api.Map{"nothing": {}}
	numbers := map[string]struct {
		set         func(m *api.Map, n int)
		least, most int
	}{
		"North":       {func(m *api.Map, n int) { m.North = n }, 1, api.MaxScale},
		"Columns":     {func(m *api.Map, n int) { m.Columns = n }, 1, api.MaxColumns},
		"first East":  {func(m *api.Map, n int) { m.East[0] = n }, 1, api.MaxScale},
		"second East": {func(m *api.Map, n int) { m.East[1] = n }, 1, api.MaxScale},
		"last East":   {func(m *api.Map, n int) { m.East[2] = n }, 1, api.MaxScale},
		"Lofts":       {func(m *api.Map, n int) { m.Lofts = n }, 1, api.MaxLofts},
		"Wrong":       {func(m *api.Map, n int) { m.Wrong = n }, 0, api.MaxWrong},
		"rows":        {func(m *api.Map, n int) { m.East = slices.Repeat([]int{700}, n) }, 1, api.MaxRows},
	}
	for name, n := range numbers {
		for _, wrong := range append([]int{n.least - 1, n.most + 1}, huge...) {
			if name != "rows" || isLength(wrong) {
				maps[name+" "+strconv.Itoa(wrong)] = changed(func(m *api.Map) { n.set(m, wrong) })
			}
		}
	}
	return maps
}

// invalidSurveys returns surveys of the example each of which breaks one rule, by what is broken.
func invalidSurveys() map[string]api.Survey {
	none := api.Span{}
	surveys := map[string]api.Survey{
		"nothing":                {},
		"the kind 0":             {Kind: 0},
		"the kind 3":             {Kind: 3},
		"a kind below 0":         {Kind: -1},
		"a box at a column":      {Kind: api.Box, At: at(1, 0)},
		"a box at a row":         {Kind: api.Box, At: at(0, 1)},
		"a box below 0":          {Kind: api.Box, At: at(0, -1)},
		"a box of a distance":    {Kind: api.Box, Dist: span(1, 1)},
		"a box from a distance":  {Kind: api.Box, Dist: span(1, 0)},
		"a box up to a distance": {Kind: api.Box, Dist: span(0, 1)},
		"a tape with a column":   {Kind: api.Tape, X: span(0, 1)},
		"a tape from a column":   {Kind: api.Tape, X: span(1, 0)},
		"a tape with a row":      {Kind: api.Tape, Y: span(0, 1)},
		"a tape from a row":      {Kind: api.Tape, Y: span(-1, 0)},
	}
	for _, n := range append([]int{-1, 2}, huge...) {
		surveys["a box of the loft "+strconv.Itoa(n)] = box(n, none, none)
		surveys["a tape of the loft "+strconv.Itoa(n)] = tape(n, at(0, 0), none)
	}
	for _, c := range []struct {
		name string
		last int
		put  func(s api.Span) api.Survey
	}{
		{"columns", 3, func(s api.Span) api.Survey { return box(0, s, none) }},
		{"rows", 2, func(s api.Span) api.Survey { return box(1, none, s) }},
		{"distances", api.MaxLength, func(s api.Span) api.Survey { return tape(0, at(1, 1), s) }},
	} {
		for _, s := range []api.Span{
			span(-1, 0), span(-1, -1), span(0, c.last+1), span(c.last+1, c.last+1), span(1, 0), span(c.last, c.last-1),
			span(math.MinInt, 1), span(1, math.MaxInt), span(math.MinInt, math.MaxInt), span(math.MaxInt, math.MinInt),
		} {
			surveys[c.name+" "+strconv.Itoa(s.Low)+" to "+strconv.Itoa(s.High)] = c.put(s)
		}
	}
	for _, p := range outside() {
		surveys["a tape at "+strconv.Itoa(p.X)+" "+strconv.Itoa(p.Y)] = tape(0, p, span(0, 9))
	}
	return surveys
}

// outside returns points that are no places of the example.
func outside() []api.Point {
	return []api.Point{at(-1, 0), at(0, -1), at(4, 0), at(0, 3), at(4, 3), at(3, 4), at(math.MinInt, 0), at(0, math.MaxInt), at(math.MaxInt, math.MinInt)}
}

// badlySurveyed returns maps each of which has one survey that is not valid, or too many of them.
func badlySurveyed() map[string]api.Map {
	maps := map[string]api.Map{
		"a survey too many": changed(func(m *api.Map) {
			m.Surveys = slices.Repeat([]api.Survey{box(0, span(0, 3), span(0, 2))}, api.MaxSurveys+1)
		}),
	}
	for name, s := range invalidSurveys() {
		maps[name+", first"] = changed(func(m *api.Map) { m.Surveys[0] = s })
		maps[name+", last"] = changed(func(m *api.Map) { m.Surveys = append(m.Surveys, s) })
	}
	return maps
}

// An outcome is what a function returned, without its error, and the error.
type outcome struct {
	results []any
	e       api.Errno
}

// A question is all that the functions ask beside the map.
type question struct {
	from, to             api.Point
	a, b, c, rule, reach int
}

// ask calls each function of a map.
func ask(m api.Map, q question) map[string]outcome {
	out := map[string]outcome{"Check": {nil, lofts.Check(m)}}
	put := func(name string, result any, e api.Errno) { out[name] = outcome{[]any{tidy(result)}, e} }
	length, e := lofts.Length(m, q.from, q.to, q.rule)
	put("Length", length, e)
	many, e := lofts.Many(m)
	put("Many", many, e)
	fewest, e := lofts.Fewest(m)
	put("Fewest", fewest, e)
	blame, e := lofts.Blame(m)
	put("Blame", blame, e)
	places, e := lofts.Places(m, q.a)
	put("Places", places, e)
	where, e := lofts.Show(m)
	put("Show", where, e)
	far, e := lofts.Distance(m, q.a, q.b, q.rule)
	put("Distance", far, e)
	which, e := lofts.Nearer(m, q.a, q.b, q.c)
	put("Nearer", which, e)
	surely, maybe, e := lofts.Within(m, q.a, q.reach)
	out["Within"] = outcome{[]any{tidy(surely), tidy(maybe)}, e}
	return out
}

// tidy returns a result, but nil for an empty slice, which is the same.
func tidy(result any) any {
	v := reflect.ValueOf(result)
	if v.Kind() == reflect.Slice && v.Len() == 0 {
		return reflect.Zero(v.Type()).Interface()
	}
	return result
}

// expectErrors checks the errors of all functions: others, but for those that are named; and the zero values.
func expectErrors(t *testing.T, name string, got map[string]outcome, others api.Errno, named map[string]api.Errno) {
	t.Helper()
	for function, o := range got {
		want, ok := named[function]
		if !ok {
			want = others
		}
		if o.e != want {
			t.Errorf("%s: %s has the error %d, not %d", name, function, o.e, want)
		}
		for _, r := range o.results {
			if o.e != api.OK && !reflect.ValueOf(r).IsZero() {
				t.Errorf("%s: %s returns %v with an error", name, function, r)
			}
		}
	}
}

// wrongQuestions returns questions each of which has one thing that is not as described, and the functions that ask
// for it.
func wrongQuestions() (questions []question, asking [][]string) {
	add := func(q question, functions ...string) {
		questions = append(questions, q)
		asking = append(asking, functions)
	}
	for _, n := range append([]int{-1, 2}, huge...) {
		add(question{a: n}, "Places", "Distance", "Nearer", "Within")
		add(question{b: n}, "Distance", "Nearer")
		add(question{c: n}, "Nearer")
	}
	for _, n := range append([]int{-1, 3}, huge...) {
		add(question{rule: n}, "Length", "Distance")
	}
	for _, n := range append([]int{-1, api.MaxLength + 1}, huge...) {
		add(question{reach: n}, "Within")
	}
	for _, p := range outside() {
		add(question{from: p}, "Length")
		add(question{to: p}, "Length")
	}
	return questions, asking
}

// TestErrors: P1, with the errors in their order and zero values beside them.
func TestErrors(t *testing.T) {
	questions, asking := wrongQuestions()
	all := append(questions, question{})
	for name, m := range invalidMaps() {
		for _, q := range all {
			expectErrors(t, name, ask(m, q), api.ErrMap, nil)
		}
		m.Surveys = []api.Survey{{}}
		expectErrors(t, name+" and no survey", ask(m, question{rule: -1}), api.ErrMap, nil)
	}
	for name, m := range badlySurveyed() {
		for _, q := range all {
			expectErrors(t, name, ask(m, q), api.ErrSurvey, nil)
		}
	}
	for i, q := range questions {
		wrong := map[string]api.Errno{}
		for _, function := range asking[i] {
			wrong[function] = api.ErrArg
		}
		expectErrors(t, "example", ask(example(), q), api.OK, wrong)
		for _, function := range []string{"Check", "Length", "Many", "Fewest"} {
			wrong[function] = max(wrong[function], api.OK)
		}
		expectErrors(t, "impossible", ask(impossible(), q), api.ErrNone, wrong)
	}
	expectErrors(t, "example", ask(example(), question{}), api.OK, nil)
	counted := map[string]api.Errno{"Check": api.OK, "Length": api.OK, "Many": api.OK, "Fewest": api.OK}
	expectErrors(t, "impossible", ask(impossible(), question{}), api.ErrNone, counted)
	expectErrors(t, "one loft", ask(free(1, 1, 1), question{}), api.OK, nil)
}

// TestCheck: P2.1.
func TestCheck(t *testing.T) {
	for name, m := range map[string]api.Map{
		"the example":   example(),
		"no truth":      impossible(),
		"one place":     free(1, 1, 1),
		"all places":    free(api.MaxColumns, api.MaxRows, api.MaxLofts),
		"least scale":   {North: 1, Columns: 1, East: []int{1}, Lofts: 1, Surveys: []api.Survey{}},
		"largest scale": {North: api.MaxScale, Columns: 1, East: []int{1, api.MaxScale}, Lofts: 1, Wrong: api.MaxWrong},
		"all surveys": changed(func(m *api.Map) {
			m.Surveys = slices.Repeat([]api.Survey{box(1, span(0, 3), span(0, 2))}, api.MaxSurveys)
		}),
		"last place":    changed(func(m *api.Map) { m.Surveys[0] = box(1, span(3, 3), span(2, 2)) }),
		"all distances": changed(func(m *api.Map) { m.Surveys[3] = tape(1, at(3, 2), span(0, api.MaxLength)) }),
		"last distance": changed(func(m *api.Map) { m.Surveys[3] = tape(0, at(0, 0), span(api.MaxLength, api.MaxLength)) }),
		"no distance":   changed(func(m *api.Map) { m.Surveys[3] = tape(0, at(0, 2), span(0, 0)) }),
	} {
		if e := lofts.Check(m); e != api.OK {
			t.Errorf("%s: Check = %d", name, e)
		}
	}
	for name, m := range invalidMaps() {
		if e := lofts.Check(m); e != api.ErrMap {
			t.Errorf("%s: Check = %d", name, e)
		}
	}
	for name, m := range badlySurveyed() {
		if e := lofts.Check(m); e != api.ErrSurvey {
			t.Errorf("%s: Check = %d", name, e)
		}
	}
}

// TestLength: P2.2.
func TestLength(t *testing.T) {
	earth := api.Map{North: api.MaxScale, Columns: 10, East: slices.Repeat([]int{api.MaxScale}, 10), Lofts: 1}
	tight := api.Map{North: 1, Columns: 3, East: []int{1, 2}, Lofts: 1}
	for _, c := range []struct {
		m              api.Map
		a, b           api.Point
		down, near, up int
	}{
		{example(), at(0, 0), at(3, 0), 2400, 2400, 2400},
		{example(), at(0, 0), at(1, 1), 1250, 1250, 1250},
		{example(), at(0, 0), at(2, 1), 1802, 1803, 1803},
		{example(), at(2, 1), at(0, 0), 1802, 1803, 1803},
		{example(), at(1, 0), at(1, 2), 2000, 2000, 2000},
		{example(), at(3, 2), at(0, 2), 1800, 1800, 1800},
		{example(), at(2, 1), at(2, 1), 0, 0, 0},
		{example(), at(3, 2), at(3, 2), 0, 0, 0},
		{tight, at(0, 0), at(1, 1), 1, 2, 2}, // half the root of 13: 1.8
		{tight, at(0, 0), at(2, 1), 3, 3, 4}, // half the root of 40: 3.2
		{tight, at(1, 0), at(1, 1), 1, 1, 1},
		{api.Map{North: 2, Columns: 2, East: []int{1, 2}, Lofts: 1}, at(0, 1), at(1, 0), 2, 3, 3}, // a half: up
		{api.Map{North: 1, Columns: 5, East: []int{1}, Lofts: 1}, at(4, 0), at(0, 0), 4, 4, 4},
		{earth, at(0, 0), at(9, 9), 25455844, 25455844, 25455845},
		{earth, at(0, 9), at(9, 0), 25455844, 25455844, 25455845},
		{earth, at(0, 0), at(9, 0), 18000000, 18000000, 18000000},
		{impossible(), at(0, 0), at(3, 0), 2400, 2400, 2400},
	} {
		for rule, want := range []int{c.down, c.near, c.up} {
			if got, e := lofts.Length(c.m, c.a, c.b, rule); got != want || e != api.OK {
				t.Errorf("Length of %v and %v by %d = %d, %d, not %d", c.a, c.b, rule, got, e, want)
			}
		}
	}
}

// counted has the loft 0 at 4 places, 1 and 2 at 53, and 3 at 89: these are 1000004 truths.
func counted(t *testing.T) api.Map {
	m := api.Map{North: 1000, Columns: 10, East: slices.Repeat([]int{1013}, 10), Lofts: 4}
	var lengths []int
	for _, p := range everywhere(m) {
		d, _ := lofts.Length(m, at(0, 0), p, api.Down)
		lengths = append(lengths, d)
	}
	slices.Sort(lengths)
	if n := len(slices.Compact(slices.Clone(lengths))); n != 100 {
		t.Fatalf("%d places have different lengths", n)
	}
	for loft, n := range []int{4, 53, 53, 89} {
		m.Surveys = append(m.Surveys, tape(loft, at(0, 0), span(0, lengths[n-1])))
	}
	return m
}

// TestMany: P2.3.
func TestMany(t *testing.T) {
	lies := free(10, 10, 3)
	for loft := range 3 {
		lies.Surveys = append(lies.Surveys, box(loft, span(0, 4), span(0, 4)))
	}
	wrong := func(m api.Map, n int) api.Map {
		m.Wrong = n
		return m
	}
	for name, c := range map[string]struct {
		m    api.Map
		many int
		e    api.Errno
	}{
		"M":                 {example(), 1, api.OK},
		"N":                 {doubtful(), 10, api.OK},
		"no truth":          {impossible(), 0, api.OK},
		"no truth by far":   {wrong(impossible(), 0), 0, api.OK},
		"one place":         {free(1, 1, 8), 1, api.OK},
		"one loft":          {free(10, 10, 1), 100, api.OK},
		"just not too many": {free(10, 10, 3), 1000000, api.OK},
		"just too many":     {counted(t), 0, api.ErrMany},
		"all":               {free(10, 10, 8), 0, api.ErrMany},
		"all can be wrong":  {wrong(free(10, 10, 8), 3), 0, api.ErrMany},
		"no lie":            {lies, 25 * 25 * 25, api.OK},
		"one lie":           {wrong(lies, 1), 25*25*25 + 3*25*25*75, api.OK},
		"two lies":          {wrong(lies, 2), 1000000 - 75*75*75, api.OK},
		"three lies":        {wrong(lies, 3), 1000000, api.OK},
	} {
		if n, e := lofts.Many(c.m); n != c.many || e != c.e {
			t.Errorf("%s: Many = %d, %d", name, n, e)
		}
	}
	if _, e := lofts.Places(free(10, 10, 8), 7); e != api.OK {
		t.Errorf("Places has the error %d of a map with too many truths", e)
	}
}

// liars has a loft of which two surveys contradict a third one, and another loft of which two contradict each other.
func liars(wrong int) api.Map {
	m := free(4, 4, 2)
	m.Wrong = wrong
	m.Surveys = []api.Survey{
		box(1, span(0, 0), span(0, 3)),
		box(0, span(0, 1), span(0, 1)),
		box(0, span(3, 3), span(3, 3)),
		tape(0, at(0, 0), span(0, 1000)),
		box(1, span(1, 1), span(0, 3)),
	}
	return m
}

// TestFewestAndBlame: P2.4, P2.5.
func TestFewestAndBlame(t *testing.T) {
	for name, c := range map[string]struct {
		m      api.Map
		fewest int
		blame  []int
		e      api.Errno
	}{
		"M":             {example(), 0, nil, api.OK},
		"N":             {doubtful(), 0, nil, api.OK},
		"no survey":     {free(3, 3, 3), 0, nil, api.OK},
		"no truth":      {impossible(), 1, nil, api.ErrNone},
		"liars, none":   {liars(0), 2, nil, api.ErrNone},
		"liars, 1":      {liars(1), 2, nil, api.ErrNone},
		"liars, 2":      {liars(2), 2, []int{2}, api.OK},
		"liars, 3":      {liars(3), 2, nil, api.OK},
		"never so":      {changed(func(m *api.Map) { m.Wrong, m.Surveys[1].Dist = 1, span(9999, 9999) }), 1, []int{1}, api.OK},
		"never so, two": {changed(func(m *api.Map) { m.Wrong, m.Surveys[3].Dist, m.Surveys[1].Dist = 2, span(1, 1), span(1, 1) }), 2, []int{1, 3}, api.OK},
		"not by far": {changed(func(m *api.Map) {
			m.Surveys = slices.Repeat([]api.Survey{tape(1, at(0, 0), span(api.MaxLength, api.MaxLength))}, api.MaxSurveys)
		}), api.MaxSurveys, nil, api.ErrNone},
	} {
		if n, e := lofts.Fewest(c.m); n != c.fewest || e != api.OK {
			t.Errorf("%s: Fewest = %d, %d", name, n, e)
		}
		if l, e := lofts.Blame(c.m); !slices.Equal(l, c.blame) || e != c.e {
			t.Errorf("%s: Blame = %v, %d", name, l, e)
		}
	}
}

// TestPlaces: P2.6.
func TestPlaces(t *testing.T) {
	// The distances 2236 and 2828 of the places 1 2, 2 1 and 2 2 from 0 0 are rounded down.
	far := func(low, high int) api.Map {
		m := free(3, 3, 1)
		m.Surveys = []api.Survey{tape(0, at(0, 0), span(low, high))}
		return m
	}
	for name, c := range map[string]struct {
		m    api.Map
		loft int
		want []api.Point
	}{
		"M, 0":            {example(), 0, []api.Point{at(0, 0)}},
		"M, 1":            {example(), 1, []api.Point{at(2, 1)}},
		"N, 0":            {doubtful(), 0, []api.Point{at(0, 0), at(1, 0), at(1, 1), at(2, 2), at(3, 2)}},
		"N, 1":            {doubtful(), 1, []api.Point{at(2, 1), at(3, 1), at(0, 2), at(1, 2), at(2, 2), at(3, 2)}},
		"all":             {free(2, 3, 2), 1, []api.Point{at(0, 0), at(1, 0), at(0, 1), at(1, 1), at(0, 2), at(1, 2)}},
		"a box":           {changed(func(m *api.Map) { m.Surveys = m.Surveys[2:3] }), 1, []api.Point{at(2, 1), at(3, 1), at(2, 2), at(3, 2)}},
		"from 2236":       {far(2236, 2827), 0, []api.Point{at(2, 1), at(1, 2)}},
		"from 2237":       {far(2237, 2828), 0, []api.Point{at(2, 2)}},
		"up to 2236":      {far(2000, 2236), 0, []api.Point{at(2, 0), at(2, 1), at(0, 2), at(1, 2)}},
		"up to 2235":      {far(2000, 2235), 0, []api.Point{at(2, 0), at(0, 2)}},
		"no lie is left":  {liars(2), 0, []api.Point{at(0, 0), at(1, 0), at(0, 1)}},
		"one lie is left": {liars(3), 1, everywhere(liars(3))},
	} {
		if l, e := lofts.Places(c.m, c.loft); !slices.Equal(l, c.want) || e != api.OK {
			t.Errorf("%s: Places = %v, %d", name, l, e)
		}
	}
}

// TestShow: P2.7.
func TestShow(t *testing.T) {
	if l, e := lofts.Show(example()); !slices.Equal(l, []api.Point{at(0, 0), at(2, 1)}) || e != api.OK {
		t.Errorf("Show of M = %v, %d", l, e)
	}
	for name, m := range map[string]api.Map{"N": doubtful(), "liars": liars(2), "liars, 3": liars(3), "all": free(10, 10, 8)} {
		l, e := lofts.Show(m)
		if len(l) != m.Lofts || e != api.OK || len(wrongs(m, l)) > m.Wrong {
			t.Errorf("%s: Show = %v, %d", name, l, e)
		}
	}
}

// TestDistance: P2.8.
func TestDistance(t *testing.T) {
	together := free(4, 4, 2)
	together.Surveys = []api.Survey{box(0, span(1, 1), span(2, 2)), box(1, span(1, 1), span(2, 2))}
	for name, c := range map[string]struct {
		m          api.Map
		a, b, rule int
		want       api.Span
	}{
		"M, down":          {example(), 0, 1, api.Down, span(1802, 1802)},
		"M, near":          {example(), 0, 1, api.Near, span(1803, 1803)},
		"M, up":            {example(), 1, 0, api.Up, span(1803, 1803)},
		"N, down":          {doubtful(), 0, 1, api.Down, span(700, 2900)},
		"N, up":            {doubtful(), 1, 0, api.Up, span(700, 2900)},
		"N, with itself":   {doubtful(), 1, 1, api.Up, span(0, 0)},
		"anywhere":         {free(3, 3, 2), 0, 1, api.Down, span(0, 2828)},
		"anywhere, up":     {free(3, 3, 2), 1, 0, api.Up, span(0, 2829)},
		"at one place":     {together, 0, 1, api.Up, span(0, 0)},
		"itself, anywhere": {free(10, 10, 8), 7, 7, api.Near, span(0, 0)},
		"no lie is left":   {liars(2), 0, 1, api.Near, span(0, 3162)},
		"columns":          {line(span(0, 2), span(4, 9)), 0, 1, api.Down, span(2, 9)},
	} {
		if got, e := lofts.Distance(c.m, c.a, c.b, c.rule); got != c.want || e != api.OK {
			t.Errorf("%s: Distance = %v, %d", name, got, e)
		}
	}
}

// TestNearer: P2.9.
func TestNearer(t *testing.T) {
	// The distances 1000.05 and 1000.11 of the loft 0 from the others are rounded alike by each rule.
	alike := api.Map{North: 1000, Columns: 2, East: []int{10, 10, 20}, Lofts: 3}
	alike.Surveys = []api.Survey{
		box(0, span(0, 0), span(1, 1)), box(1, span(1, 1), span(0, 0)), box(2, span(1, 1), span(2, 2)),
	}
	shared := line(span(0, 3), span(3, 6), span(3, 3))
	for name, c := range map[string]struct {
		m             api.Map
		from, a, b, n int
	}{
		"the first one":          {line(span(0, 1), span(2, 3), span(5, 6)), 0, 1, 2, api.FirstNearer},
		"the second one":         {line(span(0, 1), span(2, 3), span(5, 6)), 0, 2, 1, api.SecondNearer},
		"on the other side":      {line(span(5, 5), span(0, 1), span(7, 8)), 0, 1, 2, api.SecondNearer},
		"as far":                 {line(span(4, 4), span(2, 2), span(6, 6)), 0, 1, 2, api.SameDistance},
		"as far at one place":    {line(span(4, 4), span(6, 6), span(6, 6)), 0, 1, 2, api.SameDistance},
		"nearer or as far":       {line(span(4, 4), span(5, 6), span(6, 6)), 0, 1, 2, api.OpenWhich},
		"as far or farther":      {line(span(4, 4), span(6, 7), span(6, 6)), 0, 1, 2, api.OpenWhich},
		"nearer or farther":      {line(span(4, 6), span(0, 0), span(9, 9)), 0, 1, 2, api.OpenWhich},
		"not seen when rounded":  {alike, 0, 1, 2, api.FirstNearer},
		"not seen the other way": {alike, 0, 2, 1, api.SecondNearer},
		"one loft twice":         {free(10, 10, 8), 0, 5, 5, api.SameDistance},
		"one loft":               {free(10, 10, 1), 0, 0, 0, api.SameDistance},
		"itself or another one":  {line(span(0, 3), span(5, 6)), 0, 0, 1, api.FirstNearer},
		"another one or itself":  {line(span(0, 3), span(5, 6)), 0, 1, 0, api.SecondNearer},
		"perhaps at one place":   {shared, 0, 0, 1, api.OpenWhich},
		"surely at one place":    {line(span(3, 3), span(3, 3)), 0, 0, 1, api.SameDistance},
		"in M":                   {example(), 1, 0, 1, api.SecondNearer},
		"in N":                   {doubtful(), 1, 1, 0, api.FirstNearer},
		"one place of one loft":  {line(span(2, 6), span(0, 0), span(4, 4)), 0, 0, 2, api.OpenWhich},
	} {
		if n, e := lofts.Nearer(c.m, c.from, c.a, c.b); n != c.n || e != api.OK {
			t.Errorf("%s: Nearer = %d, %d", name, n, e)
		}
	}
}

// TestWithin: P2.10.
func TestWithin(t *testing.T) {
	near := line(span(0, 1), span(0, 0), span(2, 4), span(3, 3), span(9, 9))
	for name, c := range map[string]struct {
		m             api.Map
		from, reach   int
		surely, maybe []int
	}{
		"N, 2900":           {doubtful(), 0, 2900, []int{1}, nil},
		"N, 2899":           {doubtful(), 0, 2899, nil, []int{1}},
		"N, 700":            {doubtful(), 0, 700, nil, []int{1}},
		"N, 699":            {doubtful(), 0, 699, nil, nil},
		"M, rounded down":   {example(), 1, 1802, []int{0}, nil},
		"M, 1801":           {example(), 0, 1801, nil, nil},
		"none":              {near, 4, 4, nil, nil},
		"at the place":      {near, 1, 0, nil, []int{0}},
		"some":              {near, 0, 3, []int{1, 3}, []int{2}},
		"a few":             {near, 0, 2, []int{1}, []int{2, 3}},
		"all but one":       {near, 2, 6, []int{0, 1, 3}, []int{4}},
		"all":               {near, 4, 9, []int{0, 1, 2, 3}, nil},
		"the greatest":      {near, 3, api.MaxLength, []int{0, 1, 2, 4}, nil},
		"one loft":          {free(3, 3, 1), 0, api.MaxLength, nil, nil},
		"perhaps there":     {free(3, 3, 3), 1, 0, nil, []int{0, 2}},
		"not quite all":     {free(3, 3, 3), 2, 2827, nil, []int{0, 1}},
		"all, rounded down": {free(3, 3, 3), 2, 2828, []int{0, 1}, nil},
	} {
		surely, maybe, e := lofts.Within(c.m, c.from, c.reach)
		if !slices.Equal(surely, c.surely) || !slices.Equal(maybe, c.maybe) || e != api.OK {
			t.Errorf("%s: Within = %v, %v, %d", name, surely, maybe, e)
		}
	}
}

// spoil changes all slices of some results.
func spoil(outcomes map[string]outcome) {
	for _, o := range outcomes {
		for _, r := range o.results {
			switch l := r.(type) {
			case []int:
				for i := range l {
					l[i] = 99
				}
			case []api.Point:
				for i := range l {
					l[i] = at(99, 99)
				}
			}
		}
	}
}

// TestMemory: P1 with R4, no argument is changed, not even behind its end, and no result changes a later one.
func TestMemory(t *testing.T) {
	q := question{b: 1, c: 1, reach: 2000}
	m := liars(3)
	whole := copied(m)
	whole.East, whole.Surveys = append(whole.East, 1, 2), append(whole.Surveys, api.Survey{}, box(9, span(9, 9), span(9, 9)))
	before := copied(whole)
	m.East, m.Surveys = whole.East[:len(m.East)], whole.Surveys[:len(m.Surveys)]
	first := ask(m, q)
	spoil(first)
	if !reflect.DeepEqual(whole, before) {
		t.Errorf("the map is changed: %v", whole)
	}
	if second, other := ask(m, q), ask(liars(3), q); !reflect.DeepEqual(second, other) || reflect.DeepEqual(first, second) {
		t.Errorf("the results are %v, not %v", second, other)
	}
}
