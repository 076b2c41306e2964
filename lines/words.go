package lines

import (
	"strconv"
	"strings"
)

// nothing is written for an empty string or list.
const nothing = "~"

// escaped is a colon in keys and roles, where a plain one would separate.
const escaped = "%3A"

// digits has the hexadecimal digits of escapes.
const digits = "0123456789ABCDEF"

// Word returns s with all but plain characters escaped.
func Word(s string) string {
	if s == "" {
		return nothing
	}
	var out []byte
	for i := range len(s) {
		c := s[i]
		if plain(rune(c)) {
			out = append(out, c)
		} else {
			out = append(out, '%', digits[c/16], digits[c%16])
		}
	}
	return string(out)
}

// Unword returns the string whose Word is s, and true.
func Unword(s string) (string, bool) {
	if s == nothing {
		return "", true
	}
	var out []byte
	value, missing := 0, 0 // of the current escape: the value of its digits so far, and how many are missing
	for _, c := range s {
		switch {
		case missing > 0:
			digit := strings.IndexRune(digits, c)
			if digit < 0 {
				return "", false
			}
			value, missing = 16*value+digit, missing-1
			if missing == 0 {
				out = append(out, byte(value))
			}
		case c == '%':
			value, missing = 0, 2
		case plain(c):
			out = append(out, byte(c))
		default:
			return "", false
		}
	}
	// An escape may be incomplete, or one of a plain character.
	if Word(string(out)) != s {
		return "", false
	}
	return string(out), true
}

// Number returns the int whose decimal representation is s, and true.
func Number(s string) (int, bool) {
	n, err := strconv.Atoi(s)
	if err != nil || strconv.Itoa(n) != s {
		return 0, false
	}
	return n, true
}

// plain reports whether a character is not escaped.
func plain(c rune) bool {
	switch {
	case c >= 'a' && c <= 'z', c >= 'A' && c <= 'Z', c >= '0' && c <= '9':
		return true
	}
	return strings.ContainsRune("-_.:/", c)
}

// label is Word with colons escaped too, for keys and roles.
func label(s string) string {
	return strings.ReplaceAll(Word(s), ":", escaped)
}

// unlabel returns the string whose label is s, and true.
func unlabel(s string) (string, bool) {
	if strings.Contains(s, ":") {
		return "", false
	}
	return Unword(strings.ReplaceAll(s, escaped, ":"))
}

// join returns the words separated by single spaces.
func join(words ...string) string {
	return strings.Join(words, " ")
}
