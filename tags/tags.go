// Package tags is layer 6: validation and changes of lists of tags (chapter 6).
package tags

import (
	"slices"
	"strings"

	"mapmaker/api"
)

// maxDigits is the greatest number of digits of a number.
const maxDigits = 9

// Check returns the first error of a list of tags.
func Check(l []api.Tag) api.Errno {
	if len(l) > api.MaxTags {
		return api.ErrLong
	}
	for i, t := range l {
		if !valid(t) {
			return api.ErrTag
		}
		if i > 0 && t.Key <= l[i-1].Key {
			return api.ErrOrder
		}
	}
	return api.OK
}

// Canon returns the tags in increasing order of keys.
func Canon(l []api.Tag) ([]api.Tag, api.Errno) {
	if len(l) > api.MaxTags {
		return nil, api.ErrLong
	}
	for _, t := range l {
		if !valid(t) {
			return nil, api.ErrTag
		}
	}
	out := slices.Clone(l)
	slices.SortFunc(out, func(a, b api.Tag) int { return strings.Compare(a.Key, b.Key) })
	// Now nothing but two equal keys can be out of order.
	if Check(out) != api.OK {
		return nil, api.ErrTwice
	}
	return out, api.OK
}

// Get returns the value of the first tag with that key and true.
func Get(l []api.Tag, key string) (string, bool) {
	i := find(l, key)
	if i < 0 {
		return "", false
	}
	return l[i].Val, true
}

// Set returns l with exactly one tag with that key, which has the value val.
func Set(l []api.Tag, key, val string) []api.Tag {
	tag := api.Tag{Key: key, Val: val}
	i := find(l, key)
	if i >= 0 {
		return slices.Insert(Drop(l, key), i, tag)
	}
	i = slices.IndexFunc(l, func(t api.Tag) bool { return t.Key > key })
	if i < 0 {
		i = len(l)
	}
	return slices.Insert(slices.Clone(l), i, tag)
}

// Drop returns l without the tags with that key.
func Drop(l []api.Tag, key string) []api.Tag {
	return slices.DeleteFunc(slices.Clone(l), func(t api.Tag) bool { return t.Key == key })
}

// Same reports whether a and b have the same tags in the same order.
func Same(a, b []api.Tag) bool {
	return slices.Equal(a, b)
}

// Number returns the number that the first tag with that key has as its value, and true.
func Number(l []api.Tag, key string) (int, bool) {
	val, _ := Get(l, key)
	if len(val) < 1 || len(val) > maxDigits {
		return 0, false
	}
	n := 0
	for i := range len(val) {
		c := val[i]
		if c < '0' || c > '9' {
			return 0, false
		}
		n = 10*n + int(c-'0')
	}
	return n, true
}

func valid(t api.Tag) bool {
	return t.Key != "" && len(t.Key) <= api.MaxText && len(t.Val) <= api.MaxText
}

// find returns the index of the first tag with that key, or -1.
func find(l []api.Tag, key string) int {
	return slices.IndexFunc(l, func(t api.Tag) bool { return t.Key == key })
}
