package secretary

import (
	"strconv"
	"strings"

	"squeaker/api"
)

// The answers that are not numbers.
const (
	done    = "ok"
	refused = "no"
	nothing = "none"
	tooMany = "many"
	untrue  = "liar"
	unknown = "?"
)

// maxDigits is how many digits a number has at most.
const maxDigits = 6

// read returns the word and the numbers of a line, and whether it has nothing else.
func read(line string) (first string, numbers []int, ok bool) {
	parts := strings.Split(line, " ")
	for _, part := range parts[1:] {
		if !isNumber(part) {
			return "", nil, false
		}
		n, _ := strconv.Atoi(part) // has no error, as these are a few digits
		numbers = append(numbers, n)
	}
	return parts[0], numbers, true
}

// isNumber tells whether a part of a line is a number as it is written in one.
func isNumber(part string) bool {
	if part == "" || len(part) > maxDigits || part[0] == '0' && part != "0" {
		return false
	}
	return !strings.ContainsFunc(part, func(r rune) bool { return r < '0' || r > '9' })
}

// told returns the answer to a question: numbers, or what stands for an error.
func told(e api.Errno, numbers ...int) string {
	switch {
	case e == api.ErrMany:
		return tooMany
	case e == api.ErrNone, e == api.OK && len(numbers) == 0:
		return nothing
	case e != api.OK:
		return refused
	}
	var written []string
	for _, n := range numbers {
		written = append(written, strconv.Itoa(n))
	}
	return strings.Join(written, " ")
}
