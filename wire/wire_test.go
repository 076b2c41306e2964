package wire

import (
	"encoding/binary"
	"math"
	"math/rand"
	"strings"
	"testing"

	"mapmaker/api"
)

var sizes = []uint64{0, 1, 2, 126, 127, 128, 129, 255, 256, 300, 16383, 16384, 1<<21 - 1, 1 << 21, 1<<56 - 1, 1 << 56, 1<<63 - 1, 1 << 63, 1<<63 + 1, math.MaxUint64 - 1, math.MaxUint64}

func TestP2_1PutUint(t *testing.T) {
	for _, n := range sizes {
		want := "b" + string(binary.AppendUvarint(nil, n))
		if got := PutUint("b", n); got != want {
			t.Errorf("PutUint(b, %d) is %q, not %q", n, got, want)
		}
	}
	if got := PutUint("", 300); got != "\xac\x02" {
		t.Errorf("PutUint of 300 is %q", got)
	}
}

func TestP2_1PutInt(t *testing.T) {
	for _, x := range []struct {
		n    int
		want string
	}{
		{0, "\x00"}, {-1, "\x01"}, {1, "\x02"}, {-2, "\x03"}, {2, "\x04"}, {-3, "\x05"}, {63, "\x7e"}, {-64, "\x7f"}, {64, "\x80\x01"}, {-65, "\x81\x01"},
		{math.MaxInt, "\xfe\xff\xff\xff\xff\xff\xff\xff\xff\x01"}, {math.MinInt, "\xff\xff\xff\xff\xff\xff\xff\xff\xff\x01"},
	} {
		if got := PutInt("", x.n); got != x.want {
			t.Errorf("PutInt of %d is %q, not %q", x.n, got, x.want)
		}
		if got := PutInt("ab", x.n); got != "ab"+x.want {
			t.Errorf("PutInt(ab, %d) is %q", x.n, got)
		}
	}
}

func TestP2_1PutText(t *testing.T) {
	long := strings.Repeat("x", 300)
	for s, want := range map[string]string{"": "\x00", "ab": "\x02ab", "\x00\xff": "\x02\x00\xff", long: "\xac\x02" + long} {
		if got := PutText("c", s); got != "c"+want {
			t.Errorf("PutText of %q is %q", s, got)
		}
	}
}

func TestP2_2Integers(t *testing.T) {
	full := strings.Repeat("\xff", 9)
	for _, x := range []struct {
		s    string
		n    uint64
		used int
		err  api.Errno
	}{
		{"", 0, 0, api.ErrEnd}, {"\x80", 0, 0, api.ErrEnd}, {full, 0, 0, api.ErrEnd}, {strings.Repeat("\x80", 9), 0, 0, api.ErrEnd},
		{"\x00", 0, 1, api.OK}, {"\x7f", 127, 1, api.OK}, {"\x05\x05", 5, 1, api.OK}, {"\xac\x02", 300, 2, api.OK}, {"\x00\x00", 0, 1, api.OK},
		{"\x80\x00", 0, 0, api.ErrForm}, {"\xff\x80\x00", 0, 0, api.ErrForm}, {full + "\x00", 0, 0, api.ErrForm},
		{full + "\x01", math.MaxUint64, 10, api.OK}, {full + "\x02", 0, 0, api.ErrForm}, {full + "\x03", 0, 0, api.ErrForm}, {full + "\x7f", 0, 0, api.ErrForm},
		{full + "\x80", 0, 0, api.ErrForm}, {full + "\x80\x01", 0, 0, api.ErrForm}, {full + "\xff", 0, 0, api.ErrForm}, {full + "\x81", 0, 0, api.ErrForm},
		{strings.Repeat("\x80", 9) + "\x01", 1 << 63, 10, api.OK}, {strings.Repeat("\x80", 8) + "\x7f", 127 << 56, 9, api.OK},
	} {
		r := Read(x.s)
		if n := r.Uint(); n != x.n || r.Err() != x.err || r.Left() != len(x.s)-x.used {
			t.Errorf("Uint of %q is %d, %d with %d bytes left", x.s, n, r.Err(), r.Left())
		}
		r = Read(x.s)
		want := int(x.n >> 1)
		if x.n%2 == 1 {
			want = -want - 1
		}
		if n := r.Int(); n != want || r.Err() != x.err || r.Left() != len(x.s)-x.used {
			t.Errorf("Int of %q is %d, %d with %d bytes left", x.s, n, r.Err(), r.Left())
		}
	}
}

func TestP2_2Count(t *testing.T) {
	max := strings.Repeat("\xff", 9) + "\x01"
	for _, x := range []struct {
		s       string
		most, n int
		err     api.Errno
	}{
		{"\x05", 5, 5, api.OK}, {"\x05", 4, 0, api.ErrLong}, {"\x05", math.MaxInt, 5, api.OK}, {"\x00", 0, 0, api.OK}, {"\x01", 0, 0, api.ErrLong},
		{"\x00", -5, 0, api.OK}, {"\x01", -5, 0, api.ErrLong}, {"\x01", math.MinInt, 0, api.ErrLong}, {"\xac\x02", 300, 300, api.OK}, {"\xac\x02", 299, 0, api.ErrLong},
		{max, math.MaxInt, 0, api.ErrLong}, {strings.Repeat("\xff", 8) + "\x7f", math.MaxInt, math.MaxInt, api.OK}, {"", 5, 0, api.ErrEnd}, {"\x85\x00", 3, 0, api.ErrForm},
	} {
		r := Read(x.s)
		n := r.Count(x.most)
		left := 0
		if x.err != api.OK {
			left = len(x.s)
		}
		if n != x.n || r.Err() != x.err || r.Left() != left {
			t.Errorf("Count(%d) of %q is %d, %d with %d bytes left", x.most, x.s, n, r.Err(), r.Left())
		}
	}
}

func TestP2_2Text(t *testing.T) {
	for _, x := range []struct {
		s    string
		most int
		text string
		left int
		err  api.Errno
	}{
		{"\x02abc", 2, "ab", 1, api.OK}, {"\x02ab", 9, "ab", 0, api.OK}, {"\x00", 0, "", 0, api.OK}, {"\x00", -1, "", 0, api.OK}, {"\x02ab", 1, "", 3, api.ErrLong}, {"\x02ab", -1, "", 3, api.ErrLong},
		{"\x03ab", 9, "", 3, api.ErrEnd}, {"\x03ab", 2, "", 3, api.ErrLong}, {"\x01", 1, "", 1, api.ErrEnd}, {"", 1, "", 0, api.ErrEnd}, {"\x82\x00ab", 9, "", 4, api.ErrForm},
		{strings.Repeat("\xff", 8) + "\x7fab", math.MaxInt, "", 11, api.ErrEnd},
	} {
		r := Read(x.s)
		if s := r.Text(x.most); s != x.text || r.Err() != x.err || r.Left() != x.left {
			t.Errorf("Text(%d) of %q is %q, %d with %d bytes left", x.most, x.s, s, r.Err(), r.Left())
		}
	}
}

func TestP2_2FirstErrorStays(t *testing.T) {
	r := Read("\x07\x02ab")
	if r.Uint() != 7 || r.Err() != api.OK || r.Done() != api.ErrLong || r.Text(1) != "" {
		t.Error("a short text is read")
	}
	for range 2 {
		if r.Uint() != 0 || r.Int() != 0 || r.Count(9) != 0 || r.Text(9) != "" {
			t.Error("something is read after an error")
		}
		if r.Err() != api.ErrLong || r.Done() != api.ErrLong || r.Left() != 3 {
			t.Errorf("after the error: %d, %d, %d bytes left", r.Err(), r.Done(), r.Left())
		}
	}
	r = Read("\x80")
	r.Uint()
	if r.Count(0); r.Done() != api.ErrEnd || r.Err() != api.ErrEnd {
		t.Error("the first error does not stay")
	}
}

func TestP2_2Done(t *testing.T) {
	r := Read("")
	if r.Done() != api.OK || r.Left() != 0 {
		t.Error("an empty string is not done")
	}
	r = Read("\x01\x02")
	if r.Done() != api.ErrLong || r.Err() != api.OK {
		t.Error("Done before the end is not ErrLong, or it is recorded")
	}
	if r.Uint() != 1 || r.Done() != api.ErrLong {
		t.Error("Done before the last byte is not ErrLong")
	}
	if r.Int() != 1 || r.Done() != api.OK {
		t.Error("Done at the end is not OK")
	}
}

func TestP2_2NilReader(t *testing.T) {
	var r *Reader
	if r.Uint() != 0 || r.Int() != 0 || r.Count(5) != 0 || r.Text(5) != "" || r.Left() != 0 || r.Err() != api.ErrArg || r.Done() != api.ErrArg {
		t.Error("a nil reader")
	}
}

func TestP2_3ReadBack(t *testing.T) {
	r := rand.New(rand.NewSource(1))
	for range 2000 {
		u, n := r.Uint64()>>r.Intn(64), int(r.Uint64())>>r.Intn(64)
		text := string(make([]byte, r.Intn(200))) + "\xff"
		c := r.Intn(1000)
		s := PutUint(PutText(PutInt(PutUint("", u), n), text), uint64(c))
		x := Read(s)
		if x.Uint() != u || x.Int() != n || x.Text(len(text)) != text || x.Count(c) != c || x.Done() != api.OK {
			t.Fatalf("%d, %d, %q, %d are not read back", u, n, text, c)
		}
	}
}

// Whatever is read as an integer is its only encoding.
func TestP2_3OneEncoding(t *testing.T) {
	r := rand.New(rand.NewSource(2))
	for range 100000 {
		b := make([]byte, r.Intn(12))
		for i := range b {
			b[i] = []byte{0, 1, 2, 127, 128, 129, 255, byte(r.Intn(256))}[r.Intn(8)]
		}
		s := string(b)
		x := Read(s)
		n := x.Uint()
		if x.Err() == api.OK && PutUint("", n) != s[:len(s)-x.Left()] {
			t.Fatalf("%q is read as %d", s, n)
		}
		y := Read(s)
		m := y.Int()
		if y.Err() == api.OK && PutInt("", m) != s[:len(s)-y.Left()] {
			t.Fatalf("%q is read as %d", s, m)
		}
	}
}
