// Package terms has what the rules for all chapters call lines, numbers, bounds, moments, days, keys, plain strings and bit strings (Z9 to Z11), how large a text is at most, how lists are read from one, and which windows there are.
package terms

import (
	"strings"
	"unicode/utf8"

	"beadlayer/api"
)

// maxDigits is how many digits a number in a string has at most: all chapters that read numbers agree on it.
const maxDigits = 15

// Bounded is a string that is written, with ErrLarge if it is too large to be read.
func Bounded(text string) (string, api.Errno) {
	if len(text) > api.MaxText {
		return "", api.ErrLarge
	}
	return text, api.OK
}

// Lines gives the lines of a string that is read to accept, in order. It returns ErrLarge if the string is too large, or ErrSyntax with the number of the first line that is not accepted, or not ended by a line feed.
func Lines(text string, accept func(line string) bool) (int, api.Errno) {
	if len(text) > api.MaxText {
		return 0, api.ErrLarge
	}
	for n := 0; text != ""; n++ {
		line, rest, ended := strings.Cut(text, "\n")
		if !ended || !accept(line) {
			return n, api.ErrSyntax
		}
		text = rest
	}
	return 0, api.OK
}

// Read reads a list with an element in each line. It returns the errors of Lines, then those of the list.
func Read[T any](text string, read func(line string) (T, bool), check func(list []T) api.Errno) ([]T, int, api.Errno) {
	var list []T
	wrong, e := Lines(text, func(line string) bool {
		element, ok := read(line)
		list = append(list, element)
		return ok
	})
	if e != api.OK {
		return nil, wrong, e
	}
	if e := check(list); e != api.OK {
		return nil, 0, e
	}
	return list, 0, api.OK
}

// Kind is the kind, of those from 1 to the last one, that is told by a word; false if there is none.
func Kind(told string, last int, word func(kind int) string) (int, bool) {
	for kind := 1; kind <= last; kind++ {
		if word(kind) == told {
			return kind, true
		}
	}
	return 0, false
}

// Number reads a number as in Z10 with at most 15 digits; false if the word is none.
func Number(word string) (int, bool) {
	digits, negative := strings.CutPrefix(word, "-")
	if digits == "" || len(digits) > maxDigits {
		return 0, false
	}
	if digits[0] == '0' && (negative || len(digits) > 1) {
		return 0, false
	}
	n := 0
	for i := range len(digits) {
		if !isDigit(digits[i]) {
			return 0, false
		}
		n = 10*n + int(digits[i]-'0')
	}
	if negative {
		n = -n
	}
	return n, true
}

// Numbers reads each of the words as a number; false if one of them is none.
func Numbers(words []string) ([]int, bool) {
	numbers := make([]int, 0, len(words))
	for _, word := range words {
		n, ok := Number(word)
		if !ok {
			return nil, false
		}
		numbers = append(numbers, n)
	}
	return numbers, true
}

// Within reports whether a number is from one to another one.
func Within(n, least, most int) bool {
	return n >= least && n <= most
}

// IsMoment reports whether a number is a moment.
func IsMoment(at int) bool {
	return Within(at, 0, api.End-1)
}

// IsWindow reports whether a window is of moments: it does not end before it begins, nor after the last one.
func IsWindow(w api.Window) bool {
	return Within(w.From, 0, w.To) && w.To <= api.End
}

// Day is the day of a moment.
func Day(at int) int {
	return at / api.DayLong
}

// IsKey reports whether a string is a key.
func IsKey(s string) bool {
	if s == "" || len(s) > api.MaxName || !isSmallLetter(s[0]) {
		return false
	}
	for i := range len(s) {
		if !isSmallLetter(s[i]) && !isDigit(s[i]) && s[i] != '-' && s[i] != '_' {
			return false
		}
	}
	return true
}

// IsPlain reports whether a string is plain.
func IsPlain(s string) bool {
	if !utf8.ValidString(s) || strings.HasPrefix(s, " ") || strings.HasSuffix(s, " ") || strings.Contains(s, "  ") {
		return false
	}
	for i := range len(s) {
		if s[i] < 32 || s[i] == 127 {
			return false
		}
	}
	return true
}

// IsBits reports whether a string is a bit string.
func IsBits(s string) bool {
	for i := range len(s) {
		if s[i] != '0' && s[i] != '1' {
			return false
		}
	}
	return true
}

func isSmallLetter(b byte) bool {
	return b >= 'a' && b <= 'z'
}

func isDigit(b byte) bool {
	return b >= '0' && b <= '9'
}
