package sheets_test

import (
	"math"
	"reflect"
	"slices"
	"strconv"
	"strings"
	"testing"

	"squeaker/api"
	"squeaker/sheets"
)

// sheet returns a sheet with some rows.
func sheet(kind int, rows ...[]int) api.Sheet { return api.Sheet{Kind: kind, Rows: rows} }

// example is the sheet S of the chapter.
func example() api.Sheet { return sheet(api.ClockSheet, []int{12, 8200, 60}, []int{5, 40, 0}) }

// changed returns the example with something changed.
func changed(change func(s *api.Sheet)) api.Sheet {
	s := example()
	change(&s)
	return s
}

// full returns a sheet with as many rows, and as great numbers, as there can be.
func full(kind int) api.Sheet {
	return sheet(kind, rows(api.MaxSheetRows, width(kind), api.MaxCell)...)
}

// rows returns rows of the same number.
func rows(n, width, number int) [][]int {
	var out [][]int
	for range n {
		out = append(out, slices.Repeat([]int{number}, width))
	}
	return out
}

// copied returns a sheet that shares no memory with another one, and has no empty slice that is not nil.
func copied(s api.Sheet) api.Sheet {
	out := api.Sheet{Kind: s.Kind}
	for _, row := range s.Rows {
		out.Rows = append(out.Rows, append([]int(nil), row...))
	}
	return out
}

// tooFarFrom returns numbers that are not within limits.
func tooFarFrom(low, high int) []int { return []int{low - 1, high + 1, math.MinInt, math.MaxInt} }

// valid returns sheets that are valid, by what they have.
func valid() map[string]api.Sheet {
	out := map[string]api.Sheet{"the example": example(), "empty rows": {Kind: api.RingBook, Rows: [][]int{}}}
	for kind := api.RingBook; kind <= api.StrikeList; kind++ {
		of := " of the kind " + strconv.Itoa(kind)
		out["no rows"+of] = sheet(kind)
		out["most"+of] = full(kind)
		out["a row of zeros"+of] = sheet(kind, rows(1, width(kind), 0)...)
		out["one row too few"+of] = sheet(kind, rows(api.MaxSheetRows-1, width(kind), 7)...)
	}
	return out
}

// invalid returns sheets each of which breaks one rule, by what is broken.
func invalid() map[string]api.Sheet {
	out := map[string]api.Sheet{
		"nothing":       {},
		"an empty row":  changed(func(s *api.Sheet) { s.Rows[1] = []int{} }),
		"a row nil":     changed(func(s *api.Sheet) { s.Rows[0] = nil }),
		"one row short": changed(func(s *api.Sheet) { s.Rows[1] = []int{5, 40} }),
		"one row long":  changed(func(s *api.Sheet) { s.Rows[1] = []int{5, 40, 0, 0} }),
		"many rows":     sheet(api.RingBook, rows(999, 2, 1)...),
	}
	for _, kind := range tooFarFrom(api.RingBook, api.StrikeList) {
		out["the kind "+strconv.Itoa(kind)] = changed(func(s *api.Sheet) { s.Kind = kind })
		out["no rows of the kind "+strconv.Itoa(kind)] = sheet(kind)
		for n := range 6 {
			out["a row of the kind "+strconv.Itoa(kind)+" "+strconv.Itoa(n)] = sheet(kind, rows(1, n, 1)...)
		}
	}
	for kind := api.RingBook; kind <= api.StrikeList; kind++ {
		of := " of the kind " + strconv.Itoa(kind)
		out["a row too many"+of] = sheet(kind, rows(api.MaxSheetRows+1, width(kind), 1)...)
		for n := range 7 {
			if n != width(kind) {
				out[strconv.Itoa(n)+" numbers"+of] = sheet(kind, rows(1, n, 1)...)
			}
		}
	}
	for row := range 2 {
		for i := range 3 {
			for _, n := range tooFarFrom(0, api.MaxCell) {
				name := strings.Join([]string{strconv.Itoa(row), strconv.Itoa(i), strconv.Itoa(n)}, " ")
				out["the number "+name] = changed(func(s *api.Sheet) { s.Rows[row][i] = n })
			}
		}
	}
	return out
}

// expectFile checks what Check and Write return.
func expectFile(t *testing.T, name string, s api.Sheet, want string, e api.Errno) {
	t.Helper()
	before := copied(s)
	if got := sheets.Check(s); got != e {
		t.Errorf("%s: Check has the error %d, not %d", name, got, e)
	}
	if file, got := sheets.Write(s); file != want || got != e {
		t.Errorf("%s: Write = %q, %d, not %q, %d", name, file, got, want, e)
	}
	if !reflect.DeepEqual(before, copied(s)) {
		t.Errorf("%s: the sheet is changed: %v", name, s)
	}
}

// expectSeal checks what Seal returns.
func expectSeal(t *testing.T, text, want string, e api.Errno) {
	t.Helper()
	if line, got := sheets.Seal(text); line != want || got != e {
		t.Errorf("Seal of %q = %q, %d, not %q, %d", text, line, got, want, e)
	}
}

// expectRepair checks what Repair returns.
func expectRepair(t *testing.T, line, want string, place int, e api.Errno) {
	t.Helper()
	if right, at, got := sheets.Repair(line); right != want || at != place || got != e {
		t.Errorf("Repair of %q = %q, %d, %d, not %q, %d, %d", line, right, at, got, want, place, e)
	}
}

// expectRead checks what Read returns.
func expectRead(t *testing.T, text string, want api.Sheet, lines []int, e api.Errno) {
	t.Helper()
	s, repaired, got := sheets.Read(text)
	if !reflect.DeepEqual(copied(s), copied(want)) || !slices.Equal(repaired, lines) || got != e {
		t.Errorf("Read of %q = %v, %v, %d, not %v, %v, %d", text, s, repaired, got, want, lines, e)
	}
}

// expectJoin checks what Join returns, in both orders of the copies.
func expectJoin(t *testing.T, a, b string, want api.Sheet, e api.Errno) {
	t.Helper()
	for _, copies := range [][2]string{{a, b}, {b, a}} {
		s, got := sheets.Join(copies[0], copies[1])
		if !reflect.DeepEqual(copied(s), copied(want)) || got != e {
			t.Errorf("Join of %q = %v, %d, not %v, %d", copies, s, got, want, e)
		}
	}
}

// expectNoSheet checks that a text is not read, whether it comes once or twice.
func expectNoSheet(t *testing.T, text string, e api.Errno) {
	t.Helper()
	expectRead(t, text, api.Sheet{}, nil, e)
	expectJoin(t, text, text, api.Sheet{}, e)
}

// write returns the file of a sheet, and fails if there is an error.
func write(t *testing.T, s api.Sheet) string {
	t.Helper()
	file, e := sheets.Write(s)
	if e != api.OK {
		t.Fatalf("Write of %v has the error %d", s, e)
	}
	return file
}

// The lines of the file of the example.
const (
	lineH  = "h 2 27417"
	lineR0 = "r 12 8200 603188"
	lineR1 = "r 5 40 02369"
	lineE  = "e 83175345"
)

// TestExample: P14.2 to P14.4, the examples of the chapter, and their file.
func TestExample(t *testing.T) {
	expectSeal(t, "a", "a0000", api.OK)
	expectSeal(t, "ab", "ab0102", api.OK)
	expectSeal(t, "e 8317", "e 83175345", api.OK)
	expectRepair(t, "ab0102", "ab0102", -1, api.OK)
	expectRepair(t, "ac0102", "ab0102", 1, api.OK)
	expectRepair(t, "ab0103", "ab0102", 5, api.OK)
	expectRepair(t, "aa0101", "ba0101", 0, api.OK)
	expectRepair(t, "aa0105", "", 0, api.ErrNone)
	file := fileOf(lineH, lineR0, lineR1, lineE)
	expectFile(t, "S", example(), file, api.OK)
	expectRead(t, file, example(), nil, api.OK)
	expectJoin(t, file, file, example(), api.OK)
}

// TestCheck: P14.1 and P14.2, which sheets are valid.
func TestCheck(t *testing.T) {
	for name, s := range valid() {
		expectFile(t, name, s, modelFile(s), api.OK)
	}
	for name, s := range invalid() {
		expectFile(t, name, s, "", api.ErrSheet)
	}
}

// TestWrite: P14.2, files that are written out.
func TestWrite(t *testing.T) {
	for name, x := range map[string]struct {
		s    api.Sheet
		file string
	}{
		"an empty ring book":     {sheet(api.RingBook), forged("h 1 0", "e 0")},
		"an empty clock sheet":   {sheet(api.ClockSheet), forged("h 2 0", "e 0")},
		"an empty strike list":   {sheet(api.StrikeList), forged("h 3 0", "e 0")},
		"a ring book":            {sheet(api.RingBook, []int{102, 7}, []int{0, 99}), forged("h 1 2", "r 102 7", "r 0 99", "e 208")},
		"a strike list":          {sheet(api.StrikeList, []int{0, 7200, 8205, 8210}), forged("h 3 1", "r 0 7200 8205 8210", "e 3669")},
		"less than the modulus":  {sheet(api.RingBook, []int{9970, 2}), forged("h 1 1", "r 9970 2", "e 9972")},
		"the modulus":            {sheet(api.RingBook, []int{9970, 3}), forged("h 1 1", "r 9970 3", "e 0")},
		"more than the modulus":  {sheet(api.RingBook, []int{9970, 3}, []int{9973, 1}), forged("h 1 2", "r 9970 3", "r 9973 1", "e 1")},
		"the longest row":        {sheet(api.StrikeList, []int{999999, 999999, 999999, 999999}), forged("h 3 1", "r 999999 999999 999999 999999", "e 823")},
		"equal rows":             {sheet(api.RingBook, []int{1, 1}, []int{1, 1}), forged("h 1 2", "r 1 1", "r 1 1", "e 4")},
		"rows in the order":      {sheet(api.RingBook, []int{9, 1}, []int{2, 8}), forged("h 1 2", "r 9 1", "r 2 8", "e 20")},
		"zeros, and at the ends": {sheet(api.RingBook, []int{0, 10}, []int{1000, 0}), forged("h 1 2", "r 0 10", "r 1000 0", "e 1010")},
	} {
		expectFile(t, name, x.s, x.file, api.OK)
		expectRead(t, x.file, x.s, nil, api.OK)
	}
}

// TestSeal: P14.3, texts of one byte, of all lengths, and those that are none.
func TestSeal(t *testing.T) {
	for b := range 256 {
		text := string([]byte{byte(b)})
		if b >= 32 && b <= 126 {
			expectSeal(t, text, modelLine(text), api.OK)
			continue
		}
		for _, text := range []string{text, "a" + text, text + "a", "a" + text + "a"} {
			expectSeal(t, text, "", api.ErrLine)
		}
	}
	for n := range 200 {
		for _, one := range []string{" ", "~", "a", "b"} {
			text := strings.Repeat(one, n)
			if n >= 1 && n <= api.MaxWide {
				expectSeal(t, text, modelLine(text), api.OK)
			} else {
				expectSeal(t, text, "", api.ErrLine)
			}
		}
	}
	for text, line := range map[string]string{
		" ": " 3232", "~": "~2929", "ba": "ba0101", "b": "b0101", "0": "04848", "a\"": "a\"3468", "`": "`9696",
	} {
		expectSeal(t, text, line, api.OK)
	}
	for _, text := range []string{"é", "aé", "日本", "a\n", "\ta", "\x00", "\xff", "\u2028", "\ufffd"} {
		expectSeal(t, text, "", api.ErrLine)
	}
}

// TestRepairLength: P14.4, which lines can be repaired at all.
func TestRepairLength(t *testing.T) {
	for n := range 150 {
		text := strings.Repeat("b", n)
		line := modelLine(text)
		other := "\x00" + line[1:]
		if n == 0 || n > 64 {
			expectRepair(t, line, "", 0, api.ErrLine)
			expectRepair(t, other, "", 0, api.ErrLine)
			continue
		}
		expectRepair(t, line, line, -1, api.OK)
		expectRepair(t, other, line, 0, api.OK)
	}
	for _, line := range []string{"", "a", "0000", "\n", "    ", strings.Repeat("a", 69), strings.Repeat("\xff", 1000)} {
		expectRepair(t, line, "", 0, api.ErrLine)
	}
	for _, line := range []string{"    ", "00000"[:4], "é000"[:4], "日本"[:4]} {
		expectRepair(t, line, "", 0, api.ErrLine)
	}
}

// TestRepairByte: P14.4, each byte of a line is each other one.
func TestRepairByte(t *testing.T) {
	for _, text := range []string{"a", " ", "~", "ab", lineH[:5], lineR0[:12], "x=~ 0\"", strings.Repeat("~", 64), strings.Repeat("az ", 21)} {
		right := modelLine(text)
		for at := range right {
			for b := range 256 {
				line := []byte(right)
				line[at] = byte(b)
				place := at
				if string(line) == right {
					place = -1
				}
				expectRepair(t, string(line), right, place, api.OK)
			}
		}
	}
}

// TestRepairNone: P14.4, lines that differ from each right line in more than a byte.
func TestRepairNone(t *testing.T) {
	for _, line := range []string{
		"aa0105", "a0011", "a1001", "a1100", "a0110", "a9700", "a0097", "a9797", "a00-1", "aaaaa", "01000", "     ", "~~~~~", "\n\n\n\n\n",
		"ba0102\n", "\nba0101", "ab101", "ba01010", "ba0101 ", "cc0101", "ca0305", "\x00\x000101",
		"é0101", "0101é", "ba0é1", "ba日", "\x00\x00\x00\x00\x00", "\xff\xff\xff\xff\xff\xff", strings.Repeat("\x7f", 64) + "0000",
	} {
		expectRepair(t, line, "", 0, api.ErrNone)
	}
}

// TestRepairSums: P14.4, each byte with its own sums as the seal, which can be those of a byte that a text can have.
func TestRepairSums(t *testing.T) {
	for b := range 256 {
		for _, before := range []string{"", "a", "~ ~"} {
			line := modelLine(before + string([]byte{byte(b)}))
			at := len(before)
			meant := ' ' + (b-' '+97)%97
			switch {
			case meant > '~':
				expectRepair(t, line, "", 0, api.ErrNone)
			case meant == b:
				expectRepair(t, line, line, -1, api.OK)
			default:
				expectRepair(t, line, before+string(rune(meant))+line[at+1:], at, api.OK)
			}
		}
	}
}

// TestReadEnd: P14.5 and P14.6, texts that do not end with a line, and the order of errors.
func TestReadEnd(t *testing.T) {
	file := modelFile(example())
	for _, text := range []string{"", "a", " ", lineE, file[:len(file)-1], file + " ", file + lineE, "?", file[:len(file)-1] + "\r"} {
		expectNoSheet(t, text, api.ErrText)
		expectJoin(t, text, file, api.Sheet{}, api.ErrText)
	}
}

// TestReadLine: P14.5 and P14.6, lines that cannot be repaired, wherever they stand.
func TestReadLine(t *testing.T) {
	lines := []string{lineH, lineR0, lineR1, lineE}
	for _, wrong := range []string{
		"", "h", "0000", "aa0105", "r 12 8200 603199", "R 12 8200 603189", "r 12 8200 603188\r\r", "  r 12 8200 603188", "r 12 8200  603188",
		"r 12 8200 60", modelLine(strings.Repeat("a", 65)), strings.Repeat("é", 40), modelLine("é"), modelLine("r\t12\t8200 60"),
	} {
		for i := range lines {
			text := slices.Clone(lines)
			text[i] = wrong
			expectNoSheet(t, fileOf(text...), api.ErrLine)
			expectJoin(t, fileOf(text...), fileOf(lines...), example(), api.OK)
			expectNoSheet(t, fileOf(slices.Insert(text, i, "")...), api.ErrLine)
		}
		expectNoSheet(t, fileOf(append(lines, wrong)...), api.ErrLine)
		expectNoSheet(t, fileOf(wrong), api.ErrLine)
		expectNoSheet(t, fileOf(wrong, wrong), api.ErrLine)
	}
	expectNoSheet(t, "\n", api.ErrLine)
	expectNoSheet(t, "\n\n", api.ErrLine)
}

// notFiles returns texts of right lines that are not those of the file of any sheet, by what is wrong.
func notFiles() map[string][]string {
	rows := func(head, row, end string, n int) []string {
		return slices.Concat([]string{head}, slices.Repeat([]string{row}, n), []string{end})
	}
	out := map[string][]string{
		"a head alone":       {"h 2 0"},
		"an end alone":       {"e 0"},
		"a row alone":        {"r 1 2"},
		"no end":             {"h 1 1", "r 1 2"},
		"no head":            {"r 1 2", "e 3"},
		"the end first":      {"e 3", "r 1 2", "h 1 1"},
		"two heads":          {"h 1 0", "h 1 0", "e 0"},
		"two ends":           {"h 1 0", "e 0", "e 0"},
		"a row behind":       {"h 1 1", "e 3", "r 1 2"},
		"a line behind":      {"h 1 1", "r 1 2", "e 3", "a"},
		"a line before":      {"a", "h 1 1", "r 1 2", "e 3"},
		"a file behind":      {"h 1 0", "e 0", "h 1 0", "e 0"},
		"a row too many":     {"h 1 1", "r 1 2", "r 1 2", "e 6"},
		"a row too few":      {"h 1 2", "r 1 2", "e 3"},
		"rows above a limit": rows("h 1 21", "r 0 0", "e 0", 21),
		"a number above it":  {"h 1 1", "r 1000000 2", "e 2702"},
		"a number below it":  {"h 1 1", "r -1 2", "e 1"},
		"a huge number":      {"h 1 1", "r 9223372036854775808 2", "e 1"},
		"a sum of 9973":      {"h 1 1", "r 9970 3", "e 9973"},
		"a sum above it":     {"h 1 1", "r 9970 4", "e 9974"},
		"a sum of the rows":  {"h 1 2", "r 1 2", "r 3 4", "e 7"},
		"a wrong sum":        {"h 1 1", "r 1 2", "e 4"},
		"a sum below":        {"h 1 1", "r 0 0", "e -9973"},
		"a longer head":      {"h 1 1 1", "r 1 2", "e 3"},
		"a shorter head":     {"h 1", "r 1 2", "e 3"},
		"no numbers":         {"h", "r", "e"},
		"a longer end":       {"h 1 1", "r 1 2", "e 3 3"},
		"a shorter end":      {"h 1 1", "r 1 2", "e"},
		"a kind of other":    {"h 2 1", "r 1 2", "e 3"},
		"rows of two kinds":  {"h 1 2", "r 1 2", "r 1 2 3", "e 9"},
		"rows of blanks":     {" ", "  ", " "},
		"blanks alone":       {"h 1 1", "    ", "e 0"},
		"a letter alone":     {"h 1 1", "r", "e 0"},
	}
	for _, head := range []string{"h 0 1", "h 4 1", "h -1 1", "h 1 01", "h 01 1", "h +1 1", "h 1 +1", "h  1 1", "h 1  1", " h 1 1", "h 1 1 ", "H 1 1", "r 1 1", "e 1 1", "h1 1", "h 11", "hh 1 1", "1 1", "h 1.0 1", "h x 1", "h 1 x", "h 1,1", "h 1 0", "h 1 2", "h 1 -1", "h 1 1x"} {
		out["the head "+head] = []string{head, "r 1 2", "e 3"}
	}
	for _, row := range []string{"r 1", "r 1 2 0", "r 01 2", "r 1 02", "r 1 +2", "r +1 2", "r 1  2", "r  1 2", " r 1 2", "r 1 2 ", "R 1 2", "h 1 2", "e 1 2", "q 1 2", "r1 2", "r 12", "rr 1 2", "1 2", "r 1 2.0", "r 0x1 2", "r 1 0b10", "r 1 2_", "r 1_ 2", "r 1,2", "r 1 2x", "r 3", "r 3 0 0", "r 003", "r - 3", "r  3"} {
		out["the row "+row] = []string{"h 1 1", row, "e 3"}
	}
	for _, zero := range []string{"r 0 -0", "r 0 00", "r 0 +0", "r 0 ", "r 0  ", "r 0 x", "r 0 .", "r 00 0", "r x 0"} {
		out["the zeros "+zero] = []string{"h 1 1", zero, "e 0"}
	}
	for _, end := range []string{"e 03", "e +3", "e  3", " e 3", "e 3 ", "E 3", "r 3", "h 3", "e3", "ee 3", "3", "e 3.0", "e 0x3", "e x", "e 3x", "e 2", "e 9976"} {
		out["the end "+end] = []string{"h 1 1", "r 1 2", end}
	}
	return out
}

// TestReadText: P14.5 and P14.6, right lines that are not those of a file, and some that are not right either.
func TestReadText(t *testing.T) {
	for name, texts := range notFiles() {
		file := forged(texts...)
		t.Run(name, func(t *testing.T) {
			expectNoSheet(t, file, api.ErrText)
			for at := range len(file) {
				if file[at] != '\n' {
					damaged := file[:at] + "\x01" + file[at+1:]
					expectRead(t, damaged, api.Sheet{}, nil, api.ErrText)
					expectJoin(t, file, damaged, api.Sheet{}, api.ErrText)
				}
			}
			expectNoSheet(t, file+"\n", api.ErrLine)
			expectJoin(t, file+"aa0105\n", file+"ab0103\n", api.Sheet{}, api.ErrText)
			expectJoin(t, file+"aa0101\n", file+"ab0102\n", api.Sheet{}, api.ErrCopy)
		})
	}
}

// TestReadRepaired: P14.5, which lines were not right.
func TestReadRepaired(t *testing.T) {
	lines := []string{lineH, lineR0, lineR1, lineE}
	damaged := []string{"h 2 27407", "r 12 8200 603\x0088", "x 5 40 02369", "e 83\xff75345"}
	for set := range 1 << len(lines) {
		text := slices.Clone(lines)
		var repaired []int
		for i := range text {
			if set>>i&1 == 1 {
				text[i] = damaged[i]
				repaired = append(repaired, i)
			}
		}
		expectRead(t, fileOf(text...), example(), repaired, api.OK)
		expectJoin(t, fileOf(text...), fileOf(lines...), example(), api.OK)
		expectJoin(t, fileOf(text...), fileOf(damaged...), example(), api.OK)
	}
}

// TestReadMeaning: P14.5, a line that was damaged twice can be taken for another one, which is found out by the sum.
func TestReadMeaning(t *testing.T) {
	file := forged("h 1 1", "r 12 3", "e 15")
	taken := strings.Replace(file, modelLine("r 12 3"), modelLine("r 13 3"), 1)
	expectNoSheet(t, taken, api.ErrText)
	expectRead(t, forged("h 1 1", "r 13 2", "e 15"), sheet(api.RingBook, []int{13, 2}), nil, api.OK)
}

// TestJoin: P14.6, what becomes of a line that is whole, can be repaired, means another one, or cannot be repaired.
func TestJoin(t *testing.T) {
	lines := []string{lineH, lineR0, lineR1, lineE}
	with := func(i int, line string) string {
		text := slices.Clone(lines)
		text[i] = line
		return fileOf(text...)
	}
	for i, line := range lines {
		whole := []string{line, "\x01" + line[1:], line[:len(line)-1] + "x", line[:len(line)-4] + "\xff" + line[len(line)-3:]}
		lost := []string{"", "?", "\x01\x01" + line[2:], line[:len(line)-2] + "xx", strings.Repeat("\xff", 200), line + "\x01\x01"}
		others := []string{modelLine("a"), "\x01" + modelLine("a")[1:], lines[(i+1)%4], modelLine(line[:len(line)-4] + " "), modelLine(" " + line[:len(line)-4])}
		for _, a := range whole {
			for _, b := range slices.Concat(whole, lost) {
				expectJoin(t, with(i, a), with(i, b), example(), api.OK)
			}
			for _, b := range others {
				expectJoin(t, with(i, a), with(i, b), api.Sheet{}, api.ErrCopy)
			}
		}
		for _, a := range lost {
			for _, b := range lost {
				expectJoin(t, with(i, a), with(i, b), api.Sheet{}, api.ErrLine)
			}
			for _, b := range others {
				expectJoin(t, with(i, a), with(i, b), api.Sheet{}, api.ErrText)
			}
		}
	}
}

// TestJoinTurns: P14.6, copies each of which has lost the lines that the other one has.
func TestJoinTurns(t *testing.T) {
	lines := []string{lineH, lineR0, lineR1, lineE}
	for set := range 1 << len(lines) {
		a, b := slices.Clone(lines), slices.Clone(lines)
		for i := range lines {
			if set>>i&1 == 1 {
				a[i] = "lost"
			} else {
				b[i] = ""
			}
		}
		expectJoin(t, fileOf(a...), fileOf(b...), example(), api.OK)
	}
}

// TestJoinErrors: P14.6, the order of errors.
func TestJoinErrors(t *testing.T) {
	a, b, none := modelLine("a"), modelLine("b"), "?"
	file := modelFile(example())
	for name, x := range map[string]struct {
		a, b []string
		e    api.Errno
	}{
		"more lines":                      {[]string{a, none}, []string{b}, api.ErrText},
		"more lines that are whole":       {[]string{lineH, lineE, lineE}, []string{lineH, lineE}, api.ErrText},
		"other copies, then none":         {[]string{a, none}, []string{b, none}, api.ErrCopy},
		"none, then other copies":         {[]string{none, a}, []string{none, b}, api.ErrLine},
		"whole, other copies, then none":  {[]string{a, a, none}, []string{a, b, none}, api.ErrCopy},
		"whole, none, then other copies":  {[]string{a, none, a}, []string{a, none, b}, api.ErrLine},
		"one alone, other copies":         {[]string{none, a}, []string{a, b}, api.ErrCopy},
		"one alone, then none":            {[]string{none, none}, []string{a, none}, api.ErrLine},
		"no file, and other copies":       {[]string{a, b}, []string{a, a}, api.ErrCopy},
		"no file":                         {[]string{a, b}, []string{a, b}, api.ErrText},
		"two sheets":                      {linesOf(file), linesOf(modelFile(changed(func(s *api.Sheet) { s.Rows[1][2] = 1 }))), api.ErrCopy},
		"two sheets of another kind":      {linesOf(forged("h 1 0", "e 0")), linesOf(forged("h 3 0", "e 0")), api.ErrCopy},
		"two orders of rows":              {[]string{lineH, lineR0, lineR1, lineE}, []string{lineH, lineR1, lineR0, lineE}, api.ErrCopy},
		"one file, one that is not":       {linesOf(file), linesOf(forged("h 2 2", "r 12 8200 60", "r 5 40 00", "e 8317")), api.ErrCopy},
		"a file of lines that are others": {[]string{lineH, lineR0, none, lineE}, []string{none, none, lineR0, none}, api.ErrText},
	} {
		expectJoin(t, fileOf(x.a...), fileOf(x.b...), api.Sheet{}, x.e)
		if t.Failed() {
			t.Fatalf("that was: %s", name)
		}
		expectJoin(t, fileOf(x.a...)+none, fileOf(x.b...)+a, api.Sheet{}, api.ErrText)
		expectJoin(t, fileOf(x.a...), strings.TrimSuffix(fileOf(x.b...), "\n"), api.Sheet{}, api.ErrText)
	}
}
