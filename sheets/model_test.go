package sheets_test

import (
	"fmt"
	"math/rand"
	"regexp"
	"slices"
	"strconv"
	"strings"

	"squeaker/api"
)

// digits is how many digits the seal has.
const digits = 4

// modelLine returns the line with a text, whatever its bytes are.
func modelLine(text string) string {
	sum, places := 0, 0
	for i, b := range []byte(text) {
		sum += int(b)
		places += int(b) * (i + 1)
	}
	return fmt.Sprintf("%s%02d%02d", text, sum%97, places%97)
}

// modelText tells whether a line can have a text.
func modelText(text string) bool {
	for _, b := range []byte(text) {
		if b < 32 || b > 126 {
			return false
		}
	}
	return len(text) >= 1 && len(text) <= 64
}

// modelRight tells whether a line is right.
func modelRight(line string) bool {
	if len(line) < digits {
		return false
	}
	text := line[:len(line)-digits]
	return modelText(text) && modelLine(text) == line
}

// A repair is a right line, and the place of the byte in which it differs from another one.
type repair struct {
	right string
	at    int
}

// modelRepairs returns all right lines that differ from a line in at most one byte: each byte is tried at each place.
func modelRepairs(line string) []repair {
	var out []repair
	if modelRight(line) {
		out = append(out, repair{line, -1})
	}
	for at := range len(line) {
		other := []byte(line)
		for b := range 256 {
			other[at] = byte(b)
			if byte(b) != line[at] && mayBeRight(other) && modelRight(string(other)) {
				out = append(out, repair{string(other), at})
			}
		}
	}
	return out
}

// mayBeRight tells whether the first sum of a line is that of its seal. It is there to be quick.
func mayBeRight(line []byte) bool {
	sum := 0
	for _, b := range line[:len(line)-digits] {
		sum += int(b)
	}
	sum %= 97
	return line[len(line)-digits] == byte('0'+sum/10) && line[len(line)-digits+1] == byte('0'+sum%10)
}

// modelRepair returns what Repair does.
func modelRepair(line string) (repair, api.Errno) {
	if len(line) < 5 || len(line) > 68 {
		return repair{}, api.ErrLine
	}
	all := modelRepairs(line)
	if len(all) == 0 {
		return repair{}, api.ErrNone
	}
	return all[0], api.OK
}

// width returns how many numbers a row of a kind of sheet has.
func width(kind int) int { return kind + 1 }

// modelFile returns the file of a valid sheet.
func modelFile(s api.Sheet) string {
	texts := []string{fmt.Sprintf("h %d %d", s.Kind, len(s.Rows))}
	sum := 0
	for _, row := range s.Rows {
		texts = append(texts, "r "+strings.Trim(fmt.Sprint(row), "[]"))
		for _, n := range row {
			sum += n
		}
	}
	return forged(append(texts, fmt.Sprintf("e %d", sum%9973))...)
}

// forged returns lines with some texts, which are right if the texts are those of lines.
func forged(texts ...string) string {
	file := ""
	for _, text := range texts {
		file += modelLine(text) + "\n"
	}
	return file
}

// textsOf returns the texts of the lines of a file.
func textsOf(file string) []string {
	var texts []string
	for _, line := range linesOf(file) {
		texts = append(texts, line[:len(line)-digits])
	}
	return texts
}

// linesOf returns the lines of a text that ends with one.
func linesOf(text string) []string { return strings.Split(strings.TrimSuffix(text, "\n"), "\n") }

// fileOf returns the text that has some lines.
func fileOf(lines ...string) string { return strings.Join(lines, "\n") + "\n" }

var (
	head = regexp.MustCompile(`^h ([123]) (0|1?[1-9]|10|20)$`)
	body = regexp.MustCompile(`^r(( (0|[1-9][0-9]{0,5}))+)$`)
	last = regexp.MustCompile(`^e (0|[1-9][0-9]{0,3})$`)
)

// modelSheet returns the sheet whose file has lines with some texts, if there is one.
func modelSheet(texts []string) (s api.Sheet, ok bool) {
	end := len(texts) - 1
	first, sum := head.FindStringSubmatch(texts[0]), last.FindStringSubmatch(texts[end])
	if first == nil || sum == nil || number(first[2]) != end-1 {
		return api.Sheet{}, false
	}
	s.Kind = number(first[1])
	all := 0
	for _, text := range texts[1:end] {
		row := body.FindStringSubmatch(text)
		if row == nil {
			return api.Sheet{}, false
		}
		var numbers []int
		for _, part := range strings.Fields(row[1]) {
			numbers = append(numbers, number(part))
			all += number(part)
		}
		if len(numbers) != width(s.Kind) {
			return api.Sheet{}, false
		}
		s.Rows = append(s.Rows, numbers)
	}
	return s, all%9973 == number(sum[1])
}

func number(part string) int {
	n, _ := strconv.Atoi(part)
	return n
}

// modelRead returns what Read does.
func modelRead(text string) (s api.Sheet, repaired []int, e api.Errno) {
	if !strings.HasSuffix(text, "\n") {
		return api.Sheet{}, nil, api.ErrText
	}
	var texts []string
	for i, line := range linesOf(text) {
		r, e := modelRepair(line)
		if e != api.OK {
			return api.Sheet{}, nil, api.ErrLine
		}
		if r.right != line {
			repaired = append(repaired, i)
		}
		texts = append(texts, r.right[:len(r.right)-digits])
	}
	s, ok := modelSheet(texts)
	if !ok {
		return api.Sheet{}, nil, api.ErrText
	}
	return s, repaired, api.OK
}

// modelJoin returns what Join does.
func modelJoin(a, b string) (api.Sheet, api.Errno) {
	lines, others := linesOf(a), linesOf(b)
	if !strings.HasSuffix(a, "\n") || !strings.HasSuffix(b, "\n") || len(lines) != len(others) {
		return api.Sheet{}, api.ErrText
	}
	var texts []string
	for i := range lines {
		var can []string
		for _, line := range []string{lines[i], others[i]} {
			if r, e := modelRepair(line); e == api.OK {
				can = append(can, r.right[:len(r.right)-digits])
			}
		}
		can = slices.Compact(can)
		switch len(can) {
		case 0:
			return api.Sheet{}, api.ErrLine
		case 2:
			return api.Sheet{}, api.ErrCopy
		}
		texts = append(texts, can[0])
	}
	s, ok := modelSheet(texts)
	if !ok {
		return api.Sheet{}, api.ErrText
	}
	return s, api.OK
}

// randomCell returns a number of a row, often a short one or a limit.
func randomCell(r *rand.Rand) int {
	return []int{r.Intn(10), r.Intn(100), r.Intn(10000), r.Intn(api.MaxCell + 1), 0, api.MaxCell}[r.Intn(6)]
}

// randomSheet returns a valid sheet.
func randomSheet(r *rand.Rand) api.Sheet {
	s := api.Sheet{Kind: 1 + r.Intn(3)}
	for range []int{r.Intn(4), r.Intn(api.MaxSheetRows + 1), api.MaxSheetRows}[r.Intn(3)] {
		var row []int
		for range width(s.Kind) {
			row = append(row, randomCell(r))
		}
		s.Rows = append(s.Rows, row)
	}
	return s
}

// randomText returns a text of a line.
func randomText(r *rand.Rand) string {
	text := make([]byte, []int{1 + r.Intn(5), 1 + r.Intn(64), 64}[r.Intn(3)])
	for i := range text {
		text[i] = []byte{byte(' ' + r.Intn(95)), ' ', '~', byte('0' + r.Intn(10))}[r.Intn(4)]
	}
	return string(text)
}

// randomByte returns a byte that is another one, and not \n.
func randomByte(r *rand.Rand, before byte) byte {
	b := []byte{byte(r.Intn(256)), byte(' ' + r.Intn(95)), byte('0' + r.Intn(10)), before ^ byte(1<<r.Intn(8))}[r.Intn(4)]
	if b == before || b == '\n' {
		return randomByte(r, before)
	}
	return b
}

// damage returns a line in which some bytes are another ones.
func damage(r *rand.Rand, line string, bytes int) string {
	out := []byte(line)
	for _, at := range r.Perm(len(line))[:min(bytes, len(line))] {
		out[at] = randomByte(r, out[at])
	}
	return string(out)
}

// damageSome returns a file in some lines of which one byte is another one, and the numbers of these lines.
func damageSome(r *rand.Rand, file string) (damaged string, changed []int) {
	lines := linesOf(file)
	often := r.Intn(4)
	for i := range lines {
		if r.Intn(3) < often {
			lines[i] = damage(r, lines[i], 1)
			changed = append(changed, i)
		}
	}
	return fileOf(lines...), changed
}

// damageCopies returns two copies of a file: of each line at most one byte is another one in one of them, and many are in
// the other one.
func damageCopies(r *rand.Rand, file string) (a, b string) {
	lines := linesOf(file)
	others := slices.Clone(lines)
	for i, line := range lines {
		lines[i] = damage(r, line, r.Intn(2))
		others[i] = damage(r, line, []int{r.Intn(2), 1 + r.Intn(4), len(line)}[r.Intn(3)])
		if r.Intn(2) == 0 {
			lines[i], others[i] = others[i], lines[i]
		}
	}
	return fileOf(lines...), fileOf(others...)
}

// misread changes a text of a file a little, or not.
func misread(r *rand.Rand, text string) string {
	at := r.Intn(len(text) + 1)
	insert := func(what string) string { return text[:at] + what + text[at:] }
	switch r.Intn(12) {
	case 0:
		return insert(" ")
	case 1:
		return insert("0")
	case 2:
		return insert(strconv.Itoa(r.Intn(10)))
	case 3:
		return insert([]string{"+", "-", "_", "x", ".", "r", " 0"}[r.Intn(7)])
	case 4:
		return strings.Replace(text, " ", " 0", 1)
	case 5:
		return text[:at] + text[min(at+1, len(text)):]
	case 6:
		return damage(r, text, 1)
	}
	return text
}

// randomForgery returns right lines that are nearly those of a file, or quite, and may then be damaged.
func randomForgery(r *rand.Rand) string {
	texts := textsOf(modelFile(randomSheet(r)))
	if r.Intn(2) == 0 {
		texts = texts[:min(len(texts), 4)]
		texts[0] = fmt.Sprintf("h %d %d", r.Intn(5), r.Intn(4))
	}
	if r.Intn(2) == 0 {
		i := r.Intn(len(texts))
		texts[i] = misread(r, texts[i])
	}
	switch r.Intn(6) {
	case 0:
		texts = slices.Delete(texts, 0, 1)
	case 1:
		texts = slices.Insert(texts, r.Intn(len(texts)), texts[r.Intn(len(texts))])
	case 2:
		r.Shuffle(len(texts), func(i, j int) { texts[i], texts[j] = texts[j], texts[i] })
	}
	file := forged(texts...)
	switch r.Intn(4) {
	case 0:
		file, _ = damageSome(r, file)
	case 1:
		file = damage(r, file, r.Intn(3))
	}
	return file
}
