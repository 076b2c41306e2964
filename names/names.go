// Package names is layer 3: tables of strings that are numbered in the order in which they were first added (chapter 3).
package names

import (
	"slices"

	"mapmaker/api"
)

// Table is a string table.
type Table struct {
	list    []string
	numbers map[string]int
}

// New returns an empty table.
func New() *Table {
	return &Table{numbers: map[string]int{}}
}

// Of returns the table of these strings in order.
func Of(l []string) (*Table, api.Errno) {
	t := New()
	for i, s := range l {
		if t.Add(s) != i {
			return nil, api.ErrTwice
		}
	}
	return t, api.OK
}

// Add returns the number of s, which it adds if it is new.
func (t *Table) Add(s string) int {
	if t == nil {
		return -1
	}
	if n, ok := t.numbers[s]; ok {
		return n
	}
	n := len(t.list)
	t.list = append(t.list, s)
	t.numbers[s] = n
	return n
}

// Find returns the number of s and true if s is in the table.
func (t *Table) Find(s string) (int, bool) {
	if t == nil {
		return 0, false
	}
	n, ok := t.numbers[s]
	return n, ok
}

// Get returns the string with number i and true if there is one.
func (t *Table) Get(i int) (string, bool) {
	if i < 0 || i >= t.Len() {
		return "", false
	}
	return t.list[i], true
}

// Len returns the number of strings.
func (t *Table) Len() int {
	if t == nil {
		return 0
	}
	return len(t.list)
}

// All returns the strings in order.
func (t *Table) All() []string {
	if t == nil {
		return nil
	}
	return slices.Clone(t.list)
}
