// Package sets is layer 5: sets of integers as slices in strictly increasing order (chapter 5).
package sets

import "slices"

// Of returns the set of the elements of l.
func Of(l ...int) []int {
	s := slices.Clone(l)
	slices.Sort(s)
	return slices.Compact(s)
}

// Union returns the set of the integers that are in a or b.
func Union(a, b []int) []int {
	return choose(a, b, func(inA, inB bool) bool { return inA || inB })
}

// Inter returns the set of the integers that are in a and b.
func Inter(a, b []int) []int {
	return choose(a, b, func(inA, inB bool) bool { return inA && inB })
}

// Diff returns the set of the integers that are in a but not in b.
func Diff(a, b []int) []int {
	return choose(a, b, func(inA, inB bool) bool { return inA && !inB })
}

// Has reports whether x is in a.
func Has(a []int, x int) bool {
	return slices.Contains(a, x)
}

// Sub reports whether every element of a is in b.
func Sub(a, b []int) bool {
	return len(Diff(a, b)) == 0
}

// Same reports whether a and b have the same elements.
func Same(a, b []int) bool {
	return slices.Equal(Of(a...), Of(b...))
}

// choose returns the set of the elements of a and b that keep selects by where they occur.
func choose(a, b []int, keep func(inA, inB bool) bool) []int {
	a, b = Of(a...), Of(b...)
	var out []int
	for len(a) > 0 || len(b) > 0 {
		inA := len(a) > 0 && (len(b) == 0 || a[0] <= b[0])
		inB := len(b) > 0 && (len(a) == 0 || b[0] <= a[0])
		var x int
		if inB {
			x, b = b[0], b[1:]
		}
		if inA {
			x, a = a[0], a[1:]
		}
		if keep(inA, inB) {
			out = append(out, x)
		}
	}
	return out
}
