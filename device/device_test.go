package device

import (
	"math"
	"math/rand"
	"strings"
	"testing"

	"mapmaker/api"
)

// pad returns s as a block holds it.
func pad(s string) string { return s + strings.Repeat("\x00", api.BlockSize-len(s)) }

// state returns all blocks of a device.
func state(t *testing.T, d *Device) string {
	t.Helper()
	var b strings.Builder
	for i := range d.Blocks() {
		s, err := d.Read(i)
		if err != api.OK || len(s) != api.BlockSize {
			t.Fatalf("Read(%d) is %q, %d", i, s, err)
		}
		b.WriteString(s)
	}
	return b.String()
}

func put(t *testing.T, d *Device, i int, s string) {
	t.Helper()
	if err := d.Write(i, s); err != api.OK {
		t.Fatalf("Write(%d, %q) is %d", i, s, err)
	}
}

func TestP54_1New(t *testing.T) {
	for _, n := range []int{0, -1, api.MaxBlocks + 1, math.MinInt, math.MaxInt} {
		if New(n) != nil {
			t.Errorf("New(%d) is not nil", n)
		}
	}
	for _, n := range []int{1, 3, api.MaxBlocks} {
		d := New(n)
		if d == nil || d.Blocks() != n || d.Writes() != 0 || state(t, d) != strings.Repeat("\x00", n*api.BlockSize) {
			t.Errorf("New(%d) is not a device of zero bytes", n)
		}
	}
}

func TestP54_1ReadAndWrite(t *testing.T) {
	d := New(3)
	full := strings.Repeat("x", api.BlockSize)
	put(t, d, 0, full)
	put(t, d, 2, "abc")
	put(t, d, 0, "y")
	for i, want := range []string{pad("y"), pad(""), pad("abc")} {
		if s, err := d.Read(i); s != want || err != api.OK {
			t.Errorf("Read(%d) is %q, %d", i, s, err)
		}
	}
	put(t, d, 2, "")
	if s, _ := d.Read(2); s != pad("") {
		t.Errorf("an empty write leaves %q", s)
	}
	if d.Writes() != 4 {
		t.Errorf("Writes is %d", d.Writes())
	}
}

func TestP54_1Errors(t *testing.T) {
	d := New(2)
	long := strings.Repeat("x", api.BlockSize+1)
	for _, i := range []int{-1, 2, math.MinInt, math.MaxInt} {
		if s, err := d.Read(i); s != "" || err != api.ErrRange {
			t.Errorf("Read(%d) is %q, %d", i, s, err)
		}
		if err := d.Write(i, "a"); err != api.ErrRange {
			t.Errorf("Write(%d) is %d", i, err)
		}
	}
	d.Limit(0)
	for _, x := range []struct {
		i    int
		s    string
		want api.Errno
	}{{2, long, api.ErrRange}, {1, long, api.ErrLong}, {1, "a", api.ErrFull}} {
		if err := d.Write(x.i, x.s); err != x.want {
			t.Errorf("Write(%d, %q) is %d, not %d", x.i, x.s, err, x.want)
		}
	}
	if d.Writes() != 0 || state(t, d) != pad("")+pad("") {
		t.Error("a failed write has an effect")
	}
	d.Limit(1)
	d.Write(1, long)
	d.Write(5, "a")
	if err := d.Write(1, "a"); err != api.OK {
		t.Error("a failed write counts for the limit")
	}
}

func TestP54_2Limit(t *testing.T) {
	d := New(2)
	put(t, d, 0, "a")
	d.Limit(1)
	put(t, d, 1, "b")
	for range 2 {
		if err := d.Write(0, "c"); err != api.ErrFull {
			t.Errorf("the second write after Limit(1) is %d", err)
		}
	}
	if d.Writes() != 2 || state(t, d) != pad("a")+pad("b") {
		t.Error("a write beyond the limit has an effect")
	}
	d.Limit(2)
	put(t, d, 0, "c")
	put(t, d, 0, "d")
	if err := d.Write(0, "e"); err != api.ErrFull {
		t.Errorf("the third write after Limit(2) is %d", err)
	}
	for _, n := range []int{0, -1, math.MinInt} {
		d.Limit(5)
		d.Limit(n)
		if err := d.Write(0, "e"); err != api.ErrFull {
			t.Errorf("a write after Limit(%d) is %d", n, err)
		}
	}
	d.Limit(math.MaxInt)
	put(t, d, 0, "f")
	put(t, d, 0, "g")
}

func TestP54_2After(t *testing.T) {
	d := New(2)
	states := []string{state(t, d)}
	for i, s := range []string{"a", "b", "c", "d"} {
		put(t, d, i%2, s)
		states = append(states, state(t, d))
	}
	d.Limit(0)
	d.Write(0, "lost")
	for n := -2; n < 8; n++ {
		e := d.After(n)
		want := states[max(0, min(n, 4))]
		if e.Blocks() != 2 || e.Writes() != 0 || state(t, e) != want {
			t.Errorf("After(%d) is %q", n, state(t, e))
		}
		// It has no limit, and a history of its own that begins with its first state.
		put(t, e, 1, "x")
		put(t, e, 1, "y")
		if e.Writes() != 2 || state(t, e.After(0)) != want || state(t, e.After(-1)) != want || state(t, e.After(1)) != want[:64]+pad("x") || state(t, e.After(9)) != want[:64]+pad("y") {
			t.Errorf("the history of After(%d) is wrong", n)
		}
	}
	if state(t, d) != states[4] || d.Writes() != 4 || state(t, d.After(math.MinInt)) != states[0] || state(t, d.After(math.MaxInt)) != states[4] {
		t.Error("After is not independent of the device")
	}
	d.Limit(9)
	e := d.After(4)
	put(t, d, 0, "later")
	if state(t, e) != states[4] {
		t.Error("a device changes with the one that it is taken from")
	}
}

func TestP54_2NilDevice(t *testing.T) {
	var d *Device
	d.Limit(3)
	if d.Blocks() != 0 || d.Writes() != 0 || d.After(1) != nil || d.Write(0, "a") != api.ErrArg {
		t.Error("a nil device")
	}
	if s, err := d.Read(0); s != "" || err != api.ErrArg {
		t.Errorf("Read of a nil device is %q, %d", s, err)
	}
}

func TestP54_3RandomWrites(t *testing.T) {
	r := rand.New(rand.NewSource(1))
	for range 50 {
		n := 1 + r.Intn(5)
		d := New(n)
		last := map[int]string{}
		states := []string{state(t, d)}
		for range 40 {
			i, s := r.Intn(n), strings.Repeat(string(rune('a'+r.Intn(26))), r.Intn(api.BlockSize+1))
			put(t, d, i, s)
			last[i] = s
			states = append(states, state(t, d))
		}
		for i := range n {
			if s, err := d.Read(i); s != pad(last[i]) || err != api.OK {
				t.Fatalf("Read(%d) is %q, %d, not %q", i, s, err, last[i])
			}
		}
		if state(t, d.After(d.Writes())) != state(t, d) {
			t.Fatal("After(Writes()) has other blocks")
		}
		for k, want := range states {
			if state(t, d.After(k)) != want {
				t.Fatalf("After(%d) is not the state after %d writes", k, k)
			}
		}
	}
}
