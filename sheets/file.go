package sheets

import (
	"strconv"
	"strings"

	"squeaker/api"
)

// lastModulus is the one of the sum in the last line of a file.
const lastModulus = 9973

// fileOf returns the file of a valid sheet.
func fileOf(s api.Sheet) string {
	file := written("h", s.Kind, len(s.Rows))
	sum := 0
	for _, row := range s.Rows {
		file += written("r", row...)
		for _, n := range row {
			sum += n
		}
	}
	return file + written("e", sum%lastModulus)
}

// written returns a line of a file: the one whose text is a letter and some numbers, and what is behind it.
func written(letter string, numbers ...int) string {
	text := letter
	for _, n := range numbers {
		text += " " + strconv.Itoa(n)
	}
	return sealed(text) + "\n"
}

// linesOf returns the lines of a text, and whether it ends with one.
func linesOf(text string) (lines []string, ok bool) {
	text, ok = strings.CutSuffix(text, "\n")
	return strings.Split(text, "\n"), ok
}

// join returns the line that two copies of it mean, each of which can be damaged.
func join(a, b string) (string, api.Errno) {
	first, _, e := Repair(a)
	second, _, f := Repair(b)
	switch {
	case e != api.OK && f != api.OK:
		return "", api.ErrLine
	case e != api.OK:
		return second, api.OK
	case f != api.OK || first == second:
		return first, api.OK
	}
	return "", api.ErrCopy
}

// sheetOf returns the sheet whose file has some right lines, ErrText if there is none. Each line is taken for what it
// should be; if it is something else, the file of the sheet that comes out has another line there.
func sheetOf(lines []string) (api.Sheet, api.Errno) {
	var s api.Sheet
	if head := numbersOf(lines[0]); len(head) > 0 {
		s.Kind = head[0]
	}
	for _, line := range lines[1:max(1, len(lines)-1)] {
		s.Rows = append(s.Rows, numbersOf(line))
	}
	file, e := Write(s)
	if e != api.OK || file != strings.Join(lines, "\n")+"\n" {
		return api.Sheet{}, api.ErrText
	}
	return s, api.OK
}

// numbersOf returns the numbers of a right line, with any number for what is none.
func numbersOf(line string) []int {
	text, _ := split(line)
	var numbers []int
	for _, part := range strings.Split(text, " ")[1:] {
		n, _ := strconv.Atoi(part)
		numbers = append(numbers, n)
	}
	return numbers
}
