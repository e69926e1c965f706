package sheets_test

import (
	"fmt"
	"maps"
	"math/rand"
	"reflect"
	"slices"
	"strings"
	"testing"

	"squeaker/api"
	"squeaker/clocks"
	"squeaker/rings"
	"squeaker/secretary"
	"squeaker/sheets"
)

const rounds = 600

// eachSheet gives a test many sheets and their files, always the same ones.
func eachSheet(t *testing.T, test func(r *rand.Rand, s api.Sheet, file string)) {
	t.Helper()
	r := rand.New(rand.NewSource(14))
	for range rounds {
		s := randomSheet(r)
		before := copied(s)
		test(r, s, write(t, s))
		if !reflect.DeepEqual(before, copied(s)) {
			t.Errorf("the sheet is changed")
		}
		if t.Failed() {
			t.Fatalf("the sheet: %v", before)
		}
	}
}

// A tally counts how often something was so, to be sure that a test meets it.
type tally map[string]int

func (c tally) note(what string, is bool) {
	if is {
		c[what]++
	}
}

// expect checks that as many things were noted, each often enough.
func (c tally) expect(t *testing.T, kinds, least int) {
	t.Helper()
	if len(c) < kinds || slices.Min(slices.Collect(maps.Values(c))) < least {
		t.Fatalf("so often there was: %v", c)
	}
}

// TestFileModel: P14.1 and P14.2.
func TestFileModel(t *testing.T) {
	eachSheet(t, func(_ *rand.Rand, s api.Sheet, file string) { expectFile(t, "the model", s, modelFile(s), api.OK) })
}

// TestSealModel: P14.3 and P14.4, lines that are right, and damaged ones, each byte of which is tried.
func TestSealModel(t *testing.T) {
	r := rand.New(rand.NewSource(14))
	seen := tally{}
	for range rounds {
		text := randomText(r)
		expectSeal(t, text, modelLine(text), api.OK)
		for bytes := range 5 {
			line := damage(r, modelLine(text), bytes)
			want, e := modelRepair(line)
			expectRepair(t, line, want.right, want.at, e)
			what := fmt.Sprint(bytes, " bytes ")
			seen.note(what+"to the right line", want.right == modelLine(text))
			seen.note(what+"to another one", e == api.OK && want.right != modelLine(text))
			seen.note(what+"to none", e == api.ErrNone)
			seen.note("in the seal", e == api.OK && want.at >= len(text))
		}
		expectOneAtMost(t, damage(r, modelLine(text), 2))
	}
	seen.expect(t, 9, 5)
	if seen["0 bytes to the right line"] < rounds || seen["1 bytes to the right line"] < rounds {
		t.Errorf("so often there was: %v", seen)
	}
}

// expectOneAtMost checks that there are never two right lines that a line can mean.
func expectOneAtMost(t *testing.T, line string) {
	t.Helper()
	if all := modelRepairs(line); len(all) > 1 {
		t.Errorf("%q means %v", line, all)
	}
}

// TestReadModel: P14.5 and P14.6, texts that are nearly those of files.
func TestReadModel(t *testing.T) {
	r := rand.New(rand.NewSource(14))
	seen := tally{}
	for range 2 * rounds {
		file := randomForgery(r)
		s, repaired, e := modelRead(file)
		expectRead(t, file, s, repaired, e)
		seen.note(fmt.Sprint("Read with the error ", e), true)
		seen.note("repaired", len(repaired) > 0)
		other, _ := damageSome(r, file)
		if r.Intn(4) == 0 {
			other = randomForgery(r)
		}
		if r.Intn(2) == 0 {
			file, other = damageCopies(r, file)
		}
		s, e = modelJoin(file, other)
		expectJoin(t, file, other, s, e)
		seen.note(fmt.Sprint("Join with the error ", e), true)
		if t.Failed() {
			t.Fatalf("that was: %q and %q", file, other)
		}
	}
	seen.expect(t, 8, rounds/40)
}

// TestAnyText: P1, functions end without panic, whatever a text is, and with an error return nothing else.
func TestAnyText(t *testing.T) {
	r := rand.New(rand.NewSource(14))
	var texts []string
	for range 20 * rounds {
		text := make([]byte, r.Intn(90))
		for i := range text {
			text[i] = []byte{byte(r.Intn(256)), '\n', byte('0' + r.Intn(10)), ' ', 'h'}[r.Intn(5)]
		}
		texts = append(texts, string(text), string(text)+"\n")
	}
	texts = append(texts, strings.Repeat("\n", 100000), strings.Repeat("a", 100000), strings.Repeat("a0000\n", 100000), strings.Repeat("r 1 2\x00000\n", 9999))
	for _, text := range texts {
		line, e := sheets.Seal(text)
		expectZero(t, text, "Seal", e, line)
		right, at, e := sheets.Repair(text)
		expectZero(t, text, "Repair", e, right, at)
		s, repaired, e := sheets.Read(text)
		expectZero(t, text, "Read", e, s, repaired)
		s, e = sheets.Join(text, text)
		expectZero(t, text, "Join", e, s)
	}
}

// expectZero checks that with an error every other result is its zero value.
func expectZero(t *testing.T, text, name string, e api.Errno, results ...any) {
	t.Helper()
	for _, r := range results {
		if e != api.OK && !reflect.ValueOf(r).IsZero() {
			t.Errorf("%s of %q returns %v with the error %d", name, text, r, e)
		}
	}
}

// TestSameAgain: P1, a result depends on nothing but the arguments.
func TestSameAgain(t *testing.T) {
	eachSheet(t, func(r *rand.Rand, s api.Sheet, file string) {
		damaged, changed := damageSome(r, file)
		for range 2 {
			expectFile(t, "again", s, file, api.OK)
			expectRead(t, damaged, s, changed, api.OK)
			expectJoin(t, damaged, file, s, api.OK)
		}
	})
}

// TestMemory: R4, rows that are read share no memory with each other.
func TestMemory(t *testing.T) {
	eachSheet(t, func(r *rand.Rand, s api.Sheet, file string) {
		read, _, _ := sheets.Read(file)
		joined, _ := sheets.Join(file, file)
		for _, got := range []api.Sheet{read, joined} {
			for i := range got.Rows {
				before := copied(got)
				for k := range got.Rows[i] {
					got.Rows[i][k] = -7
				}
				_ = append(got.Rows[i], -7, -7, -7, -7)
				before.Rows[i] = got.Rows[i]
				if !reflect.DeepEqual(before, copied(got)) {
					t.Errorf("a row shares memory with another one: %v", got)
				}
			}
		}
	})
}

// TestReadWritten: P14.7.
func TestReadWritten(t *testing.T) {
	eachSheet(t, func(_ *rand.Rand, s api.Sheet, file string) {
		expectRead(t, file, s, nil, api.OK)
		expectJoin(t, file, file, s, api.OK)
	})
	for _, s := range valid() {
		file := write(t, s)
		expectRead(t, file, s, nil, api.OK)
		expectJoin(t, file, file, s, api.OK)
	}
}

// seal returns the line with a text, and fails if there is an error.
func seal(t *testing.T, text string) string {
	t.Helper()
	line, e := sheets.Seal(text)
	if e != api.OK {
		t.Fatalf("Seal of %q has the error %d", text, e)
	}
	return line
}

// expectFar checks that the lines of two different texts differ in at least 3 bytes.
func expectFar(t *testing.T, a, b string) {
	t.Helper()
	first, second := seal(t, a), seal(t, b)
	differ := 0
	for i := range first {
		if first[i] != second[i] {
			differ++
		}
	}
	if differ < 3 && a != b {
		t.Errorf("%q and %q differ in %d bytes", first, second, differ)
	}
}

// TestThreeBytes: P14.8, any texts, and those that differ in one or two bytes.
func TestThreeBytes(t *testing.T) {
	r := rand.New(rand.NewSource(14))
	for range rounds {
		text := []byte(randomText(r))
		for at := range text {
			other := slices.Clone(text)
			for b := byte(' '); b <= '~'; b++ {
				other[at] = b
				expectFar(t, string(text), string(other))
			}
			// Two bytes that change by as much leave the first sum as it is.
			other[at] = text[at]
			by := 1 + r.Intn(94)
			if next := r.Intn(len(text)); next != at && int(text[at])+by <= '~' && int(text[next])-by >= ' ' {
				other[at] += byte(by)
				other[next] -= byte(by)
				expectFar(t, string(text), string(other))
			}
		}
		other := randomText(r)
		for len(other) < len(text) {
			other += randomText(r)
		}
		expectFar(t, string(text), other[:len(text)])
	}
	seals := map[string]string{}
	for a := byte(' '); a <= '~'; a++ {
		for b := byte(' '); b <= '~'; b++ {
			text := string([]byte{a, b})
			before, twice := seals[seal(t, text)[2:]]
			if seals[seal(t, text)[2:]] = text; twice {
				t.Errorf("%q and %q have the same seal", before, text)
			}
		}
	}
}

// TestOneByte: P14.9, in each line.
func TestOneByte(t *testing.T) {
	seen := tally{}
	eachSheet(t, func(r *rand.Rand, s api.Sheet, file string) {
		damaged, changed := damageSome(r, file)
		expectRead(t, damaged, s, changed, api.OK)
		seen.note("all lines", len(changed) == len(linesOf(file)))
		seen.note("no lines", len(changed) == 0)
		seen.note("some lines", len(changed) > 0 && len(changed) < len(linesOf(file)))
	})
	seen.expect(t, 3, rounds/60)
	for i, was := range []byte(modelFile(example())) {
		for b := range 256 {
			if was == '\n' || b == '\n' || byte(b) == was {
				continue
			}
			file := []byte(modelFile(example()))
			file[i] = byte(b)
			expectRead(t, string(file), example(), []int{strings.Count(string(file[:i]), "\n")}, api.OK)
		}
	}
}

// TestTwoCopies: P14.10.
func TestTwoCopies(t *testing.T) {
	seen := tally{}
	eachSheet(t, func(r *rand.Rand, s api.Sheet, file string) {
		a, b := damageCopies(r, file)
		for _, copies := range [][2]string{{a, b}, {b, a}} {
			got, e := sheets.Join(copies[0], copies[1])
			told := e == api.ErrCopy && reflect.DeepEqual(got, api.Sheet{})
			if !told && (e != api.OK || !reflect.DeepEqual(copied(got), copied(s))) {
				t.Errorf("Join of %q = %v, %d", copies, got, e)
			}
			_, _, first := sheets.Read(copies[0])
			_, _, second := sheets.Read(copies[1])
			seen.note("contradict each other", told)
			seen.note("none alone", e == api.OK && first != api.OK && second != api.OK)
			seen.note("one alone", e == api.OK && (first == api.OK) != (second == api.OK))
			seen.note("each alone", e == api.OK && first == api.OK && second == api.OK)
		}
	})
	seen.expect(t, 4, rounds/40)
}

// TestLostLine: P14.11, whole or damaged.
func TestLostLine(t *testing.T) {
	eachSheet(t, func(r *rand.Rand, _ api.Sheet, file string) {
		damaged, _ := damageSome(r, file)
		for _, text := range []string{file, damaged} {
			lines := linesOf(text)
			for i, line := range lines {
				expectNotRead(t, slices.Delete(slices.Clone(lines), i, i+1))
				expectNotRead(t, slices.Insert(slices.Clone(lines), i, line))
				expectNotRead(t, slices.Insert(slices.Clone(lines), r.Intn(len(lines)+1), line))
			}
		}
	})
}

// expectNotRead checks that there is an error for some lines.
func expectNotRead(t *testing.T, lines []string) {
	t.Helper()
	if s, repaired, e := sheets.Read(fileOf(lines...)); e == api.OK || repaired != nil || !reflect.DeepEqual(s, api.Sheet{}) {
		t.Errorf("Read of %q = %v, %v, %d", lines, s, repaired, e)
	}
}

// TestRight: P14.12, and a text that is read with lines repaired is what was written but for a byte in each of these.
func TestRight(t *testing.T) {
	r := rand.New(rand.NewSource(14))
	seen := tally{}
	for range 4 * rounds {
		text := randomForgery(r)
		s, repaired, e := sheets.Read(text)
		if e != api.OK {
			seen.note("not read", true)
			continue
		}
		lines, want := linesOf(text), linesOf(write(t, s))
		for i := range want {
			differ := 0
			for k := range want[i] {
				if want[i][k] != lines[i][k] {
					differ++
				}
			}
			if differ > 1 || (differ == 1) != slices.Contains(repaired, i) || len(lines) != len(want) || len(lines[i]) != len(want[i]) {
				t.Fatalf("Read of %q = %v, %v", text, s, repaired)
			}
		}
		seen.note("repaired", len(repaired) > 0)
		seen.note("right", len(repaired) == 0)
	}
	seen.expect(t, 3, rounds/10)
}

// randomStrikes returns a list of strikes of a club, some of which it refuses.
func randomStrikes(r *rand.Rand) api.Sheet {
	s := sheet(api.StrikeList)
	for range 1 + r.Intn(8) {
		at := []int{0, 3600, r.Intn(7201), r.Intn(9000)}[r.Intn(4)]
		low := max(0, 1000+at+r.Intn(9)-6)
		s.Rows = append(s.Rows, []int{r.Intn(3), at, low, []int{low + r.Intn(6), low, api.MaxCell}[min(r.Intn(9), 2)] % (api.MaxCell + 1)})
	}
	return s
}

// strikeLines returns the lines of a script that writes a list of strikes down, and asks for the moments of numbers.
func strikeLines(s api.Sheet) []string {
	var script []string
	for _, row := range s.Rows {
		script = append(script, "strike "+strings.Trim(fmt.Sprint(row), "[]"), fmt.Sprintf("when %d %d", row[0], row[2]))
	}
	return append(script, "when 0 4600", "home 1 8200 60", "when 2 2000")
}

// club is a club with two clocks, for which no bird was clocked so far.
func club() api.Club {
	clock := api.Clock{Hours: 2, Shown: 1000, Drift: api.Span{Low: -2, High: 4}, Step: 3}
	return api.Club{Clocks: []api.Clock{clock, clock}}
}

// reread returns the sheets that are read from damaged files of a sheet: one of them, and two copies. The copies are
// joined again until they do not contradict each other.
func reread(t *testing.T, r *rand.Rand, s api.Sheet) []api.Sheet {
	t.Helper()
	file := write(t, s)
	damaged, _ := damageSome(r, file)
	read, _, e := sheets.Read(damaged)
	if e != api.OK {
		t.Fatalf("Read of %q has the error %d", damaged, e)
	}
	for {
		joined, e := sheets.Join(damageCopies(r, file))
		if e == api.OK {
			return []api.Sheet{read, joined}
		}
		if e != api.ErrCopy {
			t.Fatalf("Join has the error %d", e)
		}
	}
}

// TestDamagedList: P0.18.
func TestDamagedList(t *testing.T) {
	r := rand.New(rand.NewSource(18))
	seen := tally{}
	for range rounds {
		s := randomStrikes(r)
		want, l, e := secretary.Run(club(), strikeLines(s))
		if e != api.OK {
			t.Fatalf("Run has the error %d", e)
		}
		for _, other := range reread(t, r, s) {
			got, m, e := secretary.Run(club(), strikeLines(other))
			if !slices.Equal(got, want) || !reflect.DeepEqual(l, m) || e != api.OK {
				t.Fatalf("Run = %q, %v, %d, and not %q, %v: %v", got, m, e, want, l, s)
			}
		}
		for i := range s.Rows {
			seen.note(want[2*i], true)
		}
	}
	seen.expect(t, 3, rounds/10)
}

// randomBook returns a ring book of birds some of which have the same ring, or one that is none.
func randomBook(r *rand.Rand) api.Sheet {
	s := sheet(api.RingBook)
	most := []int{3, 20, 10000, 10010}[min(r.Intn(7), 3)]
	for range r.Intn(api.MaxBirds + 2) {
		s.Rows = append(s.Rows, []int{r.Intn(most), r.Intn(api.MaxMember + 1)})
	}
	return s
}

// flockOf returns the birds of a ring book.
func flockOf(s api.Sheet) api.Flock {
	var f api.Flock
	for _, row := range s.Rows {
		f.Birds = append(f.Birds, api.Bird{Ring: row[0], Sex: api.Hen})
	}
	return f
}

// TestRingBook: P0.19.
func TestRingBook(t *testing.T) {
	r := rand.New(rand.NewSource(19))
	seen := tally{}
	for range rounds {
		s := randomBook(r)
		want, e := rings.Doubled(flockOf(s))
		for _, other := range reread(t, r, s) {
			got, f := rings.Doubled(flockOf(other))
			if !slices.Equal(got, want) || f != e {
				t.Fatalf("Doubled = %v, %d, and not %v, %d: %v", got, f, want, e, s)
			}
		}
		seen.note("doubled rings", len(want) > 0)
		seen.note("none", len(want) == 0 && e == api.OK)
		seen.note("no flock", e == api.ErrFlock)
	}
	seen.expect(t, 3, rounds/20)
}

// randomClocked returns a clock sheet of birds some of which cannot have been clocked so.
func randomClocked(r *rand.Rand) api.Sheet {
	s := sheet(api.ClockSheet)
	for range r.Intn(api.MaxSheetRows + 1) {
		shown := []int{1000 + r.Intn(7200), r.Intn(10000), r.Intn(200000)}[min(r.Intn(9), 2)]
		s.Rows = append(s.Rows, []int{r.Intn(api.MaxRing + 1), shown, r.Intn(700)})
	}
	return s
}

// homes returns when each bird of a clock sheet came home, or the error.
func homes(s api.Sheet) []string {
	c := club().Clocks[0]
	c.Strikes = []api.Strike{{At: 3600, Shown: api.Span{Low: 4600, High: 4602}}}
	var out []string
	for _, row := range s.Rows {
		home, e := clocks.Home(c, api.Clocking{Shown: row[1], Late: row[2]})
		out = append(out, fmt.Sprint(row[0], home, e))
	}
	return out
}

// TestCopiesOfClocks: P0.20, for lines that are damaged in one of two copies alone.
func TestCopiesOfClocks(t *testing.T) {
	r := rand.New(rand.NewSource(20))
	seen := tally{}
	for range rounds {
		s := randomClocked(r)
		want := homes(s)
		file := write(t, s)
		for _, copies := range [][2]string{damagedOnce(r, file), pair(damageCopies(r, file))} {
			got, e := sheets.Join(copies[0], copies[1])
			if e != api.ErrCopy && (e != api.OK || !slices.Equal(homes(got), want)) {
				t.Fatalf("Join of %q = %v, %d: %v", copies, got, e, s)
			}
			seen.note(fmt.Sprint("the error ", e), true)
		}
		for _, home := range want {
			seen.note("home", strings.HasSuffix(home, fmt.Sprint(" ", api.OK)))
			seen.note("not home", !strings.HasSuffix(home, fmt.Sprint(" ", api.OK)))
		}
	}
	seen.expect(t, 4, rounds/20)
}

// damagedOnce returns two copies of a file: each line is whole in one of them, and has at most one byte damaged in the
// other one.
func damagedOnce(r *rand.Rand, file string) [2]string {
	copies := [2][]string{linesOf(file), linesOf(file)}
	for i, line := range linesOf(file) {
		copies[r.Intn(2)][i] = damage(r, line, r.Intn(2))
	}
	return [2]string{fileOf(copies[0]...), fileOf(copies[1]...)}
}

func pair(a, b string) [2]string { return [2]string{a, b} }
