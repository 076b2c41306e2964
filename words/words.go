// Package words is layer 51: normalization of names for searching (chapter 51).
package words

import (
	"strings"
	"unicode/utf8"
)

// maxWords is the greatest number of words of a name.
const maxWords = 16

// accents lists the letters that replace the sequences of the byte 195 and a byte from first to last.
var accents = [...]struct {
	first, last int
	plain       string
}{
	{128, 133, "a"}, {160, 165, "a"},
	{135, 135, "c"}, {167, 167, "c"},
	{136, 139, "e"}, {168, 171, "e"},
	{140, 143, "i"}, {172, 175, "i"},
	{145, 145, "n"}, {177, 177, "n"},
	{146, 150, "o"}, {152, 152, "o"}, {178, 182, "o"}, {184, 184, "o"},
	{153, 156, "u"}, {185, 188, "u"},
	{159, 159, "ss"},
}

// abbreviations lists the words that stand for others.
var abbreviations = [...]struct{ short, long string }{
	{"st", "street"}, {"rd", "road"}, {"ave", "avenue"}, {"sq", "square"},
	{"n", "north"}, {"s", "south"}, {"e", "east"}, {"w", "west"},
	{"ste", "saint"},
}

// Fold returns s in lower case and without the accents of Latin letters.
func Fold(s string) string {
	var out strings.Builder
	done := 0
	for i, r := range s {
		plain, ok := foldRune(r)
		if !ok {
			continue
		}
		out.WriteString(s[done:i])
		out.WriteString(plain)
		done = i + utf8.RuneLen(r)
	}
	out.WriteString(s[done:])
	return out.String()
}

// Split returns the words of s: its maximal sequences of ASCII letters, digits and bytes of at least 128.
func Split(s string) []string {
	var out []string
	start := -1 // of the word that has begun
	for i, r := range s {
		switch {
		case inWord(r) && start < 0:
			start = i
		case !inWord(r) && start >= 0:
			out = append(out, s[start:i])
			start = -1
		}
	}
	if start >= 0 {
		out = append(out, s[start:])
	}
	return out
}

// Expand returns the word for which w stands.
func Expand(w string) string {
	for _, a := range abbreviations {
		if a.short == w {
			return a.long
		}
	}
	return w
}

// Of returns the normalized words of a name.
func Of(s string) []string {
	l := Split(Fold(s))
	l = l[:min(len(l), maxWords)]
	for i, w := range l {
		l[i] = Expand(w)
	}
	return l
}

// foldRune returns what replaces the rune, and true if anything does.
func foldRune(r rune) (string, bool) {
	if r >= 'A' && r <= 'Z' {
		return string(r - 'A' + 'a'), true
	}
	// The byte 195 never continues a sequence, so that before a byte c from 128 to 191 it always begins the rune c + 64.
	c := int(r) - 64
	for _, a := range accents {
		if a.first <= c && c <= a.last {
			return a.plain, true
		}
	}
	return "", false
}

// inWord tells whether the rune belongs to a word. Bytes that are no UTF-8 arrive as utf8.RuneError, which is above 127 as they are.
func inWord(r rune) bool {
	return r >= 'a' && r <= 'z' || r >= 'A' && r <= 'Z' || r >= '0' && r <= '9' || r >= utf8.RuneSelf
}
