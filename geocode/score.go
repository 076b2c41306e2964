package geocode

import "strings"

const (
	maxWords = 16  // of a query
	begun    = 100 // what is added to the score if the last word of the query is only the beginning of a word
)

// Score returns how many words of the name the query leaves, and true if the query matches the name. Equal words of the name can replace each other, so that it does not matter which of them a word of the query takes.
func Score(name, q []string) (int, bool) {
	if len(q) < 1 || len(q) > maxWords {
		return 0, false
	}
	last := len(q) - 1
	taken := make([]bool, len(name))
search:
	for _, w := range q[:last] {
		for i, other := range name {
			if !taken[i] && other == w {
				taken[i] = true
				continue search
			}
		}
		return 0, false
	}
	score, ok := 0, false
	for i, other := range name {
		if taken[i] || !strings.HasPrefix(other, q[last]) {
			continue
		}
		if other == q[last] {
			return len(name) - len(q), true
		}
		score, ok = len(name)-len(q)+begun, true
	}
	return score, ok
}
