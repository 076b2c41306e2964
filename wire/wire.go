// Package wire is layer 2: binary encoding of integers and strings (chapter 2).
package wire

import (
	"mapmaker/api"
)

// maxBytes is the length of the longest encoding of 64 bits.
const maxBytes = 10

// Reader reads the fields of an encoded string from its beginning.
type Reader struct {
	rest string
	err  api.Errno
}

// PutUint returns b followed by the encoding of n.
func PutUint(b string, n uint64) string {
	var l []byte
	for n >= 128 {
		l = append(l, byte(n)|128)
		n >>= 7
	}
	return b + string(append(l, byte(n)))
}

// PutInt returns b followed by the encoding of n.
func PutInt(b string, n int) string {
	if n < 0 {
		return PutUint(b, uint64(^n)<<1|1) // ^n is -n - 1, which cannot overflow
	}
	return PutUint(b, uint64(n)<<1)
}

// PutText returns b followed by the encoding of s.
func PutText(b, s string) string {
	return PutUint(b, uint64(len(s))) + s
}

// Read returns a reader at the beginning of s.
func Read(s string) *Reader {
	return &Reader{rest: s}
}

// Uint reads an unsigned integer.
func (r *Reader) Uint() uint64 {
	var n uint64
	r.read(func(s string) (used int, err api.Errno) {
		n, used, err = parseUint(s)
		return used, err
	})
	return n
}

// Int reads an integer.
func (r *Reader) Int() int {
	n := r.Uint()
	if n&1 == 1 {
		return ^int(n >> 1)
	}
	return int(n >> 1)
}

// Count reads an unsigned integer of at most most.
func (r *Reader) Count(most int) int {
	var n int
	r.read(func(s string) (used int, err api.Errno) {
		n, used, err = parseCount(s, most)
		return used, err
	})
	return n
}

// Text reads a string of at most most bytes.
func (r *Reader) Text(most int) string {
	var text string
	r.read(func(s string) (int, api.Errno) {
		n, used, err := parseCount(s, most)
		if err != api.OK {
			return 0, err
		}
		if n > len(s)-used {
			return 0, api.ErrEnd
		}
		text = s[used : used+n]
		return used + n, api.OK
	})
	return text
}

// Left returns the number of bytes that were not consumed.
func (r *Reader) Left() int {
	if r == nil {
		return 0
	}
	return len(r.rest)
}

// Err returns the first error.
func (r *Reader) Err() api.Errno {
	if r == nil {
		return api.ErrArg
	}
	return r.err
}

// Done returns the first error, or ErrLong if bytes are left.
func (r *Reader) Done() api.Errno {
	if err := r.Err(); err != api.OK {
		return err
	}
	if r.Left() > 0 {
		return api.ErrLong
	}
	return api.OK
}

// read lets parse look at the rest of the string, unless there was an error, and consumes the bytes that it used.
func (r *Reader) read(parse func(s string) (used int, err api.Errno)) {
	if r == nil || r.err != api.OK {
		return
	}
	var used int
	var err api.Errno
	defer func() {
		if err != api.OK {
			r.err = err
			return
		}
		r.rest = r.rest[used:]
	}()
	used, err = parse(r.rest)
}

// parseUint returns the unsigned integer at the beginning of s and the number of its bytes.
func parseUint(s string) (n uint64, used int, err api.Errno) {
	for i := range min(len(s), maxBytes) {
		c := s[i]
		if c >= 128 {
			n |= uint64(c-128) << (7 * i)
			continue
		}
		if i > 0 && c == 0 || i == maxBytes-1 && c > 1 {
			return 0, 0, api.ErrForm
		}
		return n | uint64(c)<<(7*i), i + 1, api.OK
	}
	if len(s) < maxBytes {
		return 0, 0, api.ErrEnd
	}
	return 0, 0, api.ErrForm
}

// parseCount is parseUint for an integer of at most most.
func parseCount(s string, most int) (n, used int, err api.Errno) {
	u, used, err := parseUint(s)
	if err != api.OK {
		return 0, 0, err
	}
	if u > uint64(max(most, 0)) {
		return 0, 0, api.ErrLong
	}
	return int(u), used, api.OK
}
