package sheets

import (
	"iter"

	"squeaker/api"
)

const (
	// sealWidth is the number of digits of a seal.
	sealWidth = 4
	// modulus is the one of the sums of a seal. It is a prime greater than any difference of two bytes of a text, and
	// than any place, so that each change of one byte changes both sums.
	modulus = 97
	// nowhere stands for the place of the damaged byte in a line that is right.
	nowhere = -1
)

// isText tells whether a line can have a text.
func isText(text string) bool {
	for _, r := range text {
		if r < ' ' || r > '~' {
			return false
		}
	}
	return isIn(len(text), 1, api.MaxWide)
}

// sealed returns the line with a text.
func sealed(text string) string { return text + sealOf(text) }

func sealOf(text string) string {
	var seal []byte
	for _, sum := range sums(text) {
		seal = append(seal, byte('0'+sum/10), byte('0'+sum%10))
	}
	return string(seal)
}

// sums returns the sum of all bytes of a text, and that of each byte times its place.
func sums(text string) (both [2]int) {
	for i := range len(text) {
		b := int(text[i])
		both[0] = (both[0] + b) % modulus
		both[1] = (both[1] + b*(i+1)) % modulus
	}
	return both
}

// split returns what should be the text, and the seal, of a line that is long enough.
func split(line string) (text, seal string) {
	end := len(line) - sealWidth
	return line[:end], line[end:]
}

func isRight(line string) bool {
	text, seal := split(line)
	return isText(text) && seal == sealOf(text)
}

// meanings yields all lines that can be meant by one in which at most one byte is damaged, with the place of this byte:
// first the line itself, then for each place the line with the only byte there with which it can be right.
func meanings(line string) iter.Seq2[int, string] {
	return func(yield func(int, string) bool) {
		if !yield(nowhere, line) {
			return
		}
		for at := range len(line) {
			meant := []byte(line)
			meant[at] = demanded(line, at)
			if !yield(at, string(meant)) {
				return
			}
		}
	}
}

// demanded returns the only byte with which a line can be right at a place: in the text the one that the first sum
// leaves, in the seal that of the text.
func demanded(line string, at int) byte {
	text, seal := split(line)
	if at >= len(text) {
		return sealOf(text)[at-len(text)]
	}
	sum := 10*int(seal[0]-'0') + int(seal[1]-'0')
	others := sums(text[:at])[0] + sums(text[at+1:])[0]
	b := (sum - others + 2*modulus) % modulus
	if b < ' ' {
		b += modulus
	}
	return byte(b)
}
