package journal

import (
	"math/rand"
	"slices"
	"strings"
	"testing"

	"mapmaker/api"
	"mapmaker/device"
	"mapmaker/wire"
)

// pad returns s as a block holds it.
func pad(s string) string { return s + strings.Repeat("\x00", api.BlockSize-len(s)) }

// dirty returns a device all of whose blocks are garbage, so that every write of a journal is a visible change.
func dirty(t *testing.T, blocks int) *device.Device {
	t.Helper()
	d := device.New(blocks)
	for i := range blocks {
		if d.Write(i, strings.Repeat("\xee", api.BlockSize)) != api.OK {
			t.Fatal("no device")
		}
	}
	return d
}

// formatted returns a device with an empty journal, and the journal.
func formatted(t *testing.T, blocks int) (*device.Device, *Journal) {
	t.Helper()
	d := dirty(t, blocks)
	if err := Format(d); err != api.OK {
		t.Fatalf("Format is %d", err)
	}
	return d, open(t, d)
}

func open(t *testing.T, d *device.Device) *Journal {
	t.Helper()
	j, err := Open(d)
	if j == nil || err != api.OK {
		t.Fatalf("Open is %d", err)
	}
	return j
}

// expect compares what a journal says.
func expect(t *testing.T, j *Journal, records []string, epoch, space int) {
	t.Helper()
	if got := j.Records(); !slices.Equal(got, records) {
		t.Errorf("Records is %q, not %q", got, records)
	}
	if j.Epoch() != epoch || j.Space() != space {
		t.Errorf("Epoch and Space are %d, %d, not %d, %d", j.Epoch(), j.Space(), epoch, space)
	}
}

// blocks returns all blocks of a device.
func blocks(t *testing.T, d *device.Device) (out []string) {
	t.Helper()
	for i := range d.Blocks() {
		s, err := d.Read(i)
		if err != api.OK {
			t.Fatal(err)
		}
		out = append(out, s)
	}
	return out
}

// writes checks that the writes after the first ones were exactly these.
func writes(t *testing.T, d *device.Device, first int, want ...block) {
	t.Helper()
	if d.Writes()-first != len(want) {
		t.Fatalf("%d writes, not %d", d.Writes()-first, len(want))
	}
	for i, w := range want {
		state := blocks(t, d.After(first+i))
		state[w.at] = pad(w.data)
		if !slices.Equal(state, blocks(t, d.After(first+i+1))) {
			t.Errorf("write %d is not %q at %d", i, w.data, w.at)
		}
	}
}

func TestP55_1Format(t *testing.T) {
	if err := Format(nil); err != api.ErrArg {
		t.Errorf("Format of nil is %d", err)
	}
	for n := 1; n < 5; n++ {
		d := dirty(t, n)
		if err := Format(d); err != api.ErrShort || d.Writes() != n {
			t.Errorf("Format of %d blocks is %d", n, err)
		}
	}
	for _, n := range []int{5, 6, 7, 9, 100} {
		d := dirty(t, n)
		if err := Format(d); err != api.OK {
			t.Errorf("Format of %d blocks is %d", n, err)
		}
		writes(t, d, n, block{1, ""}, block{0, "MAPJ\x00"})
		expect(t, open(t, d), nil, 0, 64*((n-1)/2-1))
	}
}

func TestP55_1FormatCrash(t *testing.T) {
	for n, want := range [][]block{{}, {{1, ""}}} {
		d := dirty(t, 7)
		d.Limit(n)
		if err := Format(d); err != api.ErrFull {
			t.Errorf("Format with %d writes is %d", n, err)
		}
		writes(t, d, 7, want...)
	}
}

func TestP55_1FormatAgain(t *testing.T) {
	d, j := formatted(t, 9)
	if j.Append("x") != api.OK || j.Reset([]string{"y"}) != api.OK || Format(d) != api.OK {
		t.Fatal("no journal")
	}
	expect(t, open(t, d), nil, 0, 192)
}

func TestP55_1OpenErrors(t *testing.T) {
	if j, err := Open(nil); j != nil || err != api.ErrArg {
		t.Errorf("Open of nil is %v, %d", j, err)
	}
	for n := 1; n < 5; n++ {
		d := device.New(n)
		d.Write(0, "MAPJ\x00")
		if j, err := Open(d); j != nil || err != api.ErrShort {
			t.Errorf("Open of %d blocks is %v, %d", n, j, err)
		}
	}
	if j, err := Open(device.New(5)); j != nil || err != api.ErrForm {
		t.Errorf("Open of zero blocks is %v, %d", j, err)
	}
	if j, err := Open(dirty(t, 5)); j != nil || err != api.ErrForm {
		t.Errorf("Open of garbage is %v, %d", j, err)
	}
}

// with returns a device of 9 blocks with these blocks and zeros elsewhere. Its regions are the blocks 1 to 4 and 5 to 8.
func with(t *testing.T, l ...block) *device.Device {
	t.Helper()
	d := device.New(9)
	for _, b := range l {
		if err := d.Write(b.at, b.data); err != api.OK {
			t.Fatal(err)
		}
	}
	return d
}

func TestP55_1Roots(t *testing.T) {
	for _, y := range []struct {
		root  string
		epoch int
	}{
		{"MAPJ", 0}, {"MAPJ\x00", 0}, {"MAPJ\x01", 1}, {"MAPJ\x7f", 127}, {"MAPJ\x80\x01", 128}, {wire.PutUint("MAPJ", api.MaxID-1), api.MaxID - 1}, {wire.PutUint("MAPJ", api.MaxID), api.MaxID},
		{"", -1}, {"MAP", -1}, {"mapj", -1}, {"MAPK", -1}, {"XAPJ", -1}, {"MXPJ", -1}, {"MAXJ", -1}, {"\x00MAPJ", -1}, {"MAPJMAPJ", -1},
		{wire.PutUint("MAPJ", api.MaxID+1), -1}, {wire.PutUint("MAPJ", 1<<63), -1}, {wire.PutUint("MAPJ", 1<<64-1), -1}, {"MAPJ" + strings.Repeat("\xff", 60), -1},
		{"MAPJ\x80\x00", -1}, {"MAPJ\x81\x00", -1}, {"MAPJ\x00\x01", -1}, {"MAPJ\x01\x01", -1}, {pad("MAPJ")[:63] + "\x01", -1}, {pad("MAPJ\x05")[:30] + "\xff", -1},
	} {
		d := with(t, block{0, y.root})
		before := d.Writes()
		j, err := Open(d)
		if d.Writes() != before {
			t.Error("Open writes")
		}
		if y.epoch < 0 {
			if j != nil || err != api.ErrForm {
				t.Errorf("Open with the root %q is %v, %d", y.root, j, err)
			}
			continue
		}
		if j == nil || err != api.OK {
			t.Errorf("Open with the root %q is %d", y.root, err)
			continue
		}
		expect(t, j, nil, y.epoch, 192)
	}
}

func TestP55_1Headers(t *testing.T) {
	full := strings.Repeat("f", 64)
	for _, y := range []struct {
		name    string
		blocks  []block
		records []string // nil: malformed
		space   int
	}{
		{"no records", []block{{1, ""}}, []string{}, 192},
		{"zero byte, then others", []block{{1, "\x00\x01\xff"}, {2, "\x01\x00"}}, []string{}, 192},
		{"empty record", []block{{1, "\x01\x00"}}, []string{""}, 128},
		{"empty record without zero", []block{{1, "\x01"}}, []string{""}, 128},
		{"four empty records", []block{{1, "\x01"}, {2, "\x01"}, {3, "\x01"}, {4, "\x01"}}, []string{"", "", "", ""}, -1},
		{"short record", []block{{1, "\x01\x02"}, {2, "abc"}}, []string{"ab"}, 64},
		{"record with zero bytes", []block{{1, "\x01\x03"}, {2, "\x00\x00\x00\x01"}}, []string{"\x00\x00\x00"}, 64},
		{"padding that is not zero", []block{{1, "\x01\x02"}, {2, full}}, []string{"ff"}, 64},
		{"full block", []block{{1, "\x01\x40"}, {2, full}, {3, "\x00"}}, []string{full}, 64},
		{"two blocks", []block{{1, "\x01\x41"}, {2, full}, {3, "g"}}, []string{full + "g"}, 0},
		{"whole region", []block{{1, "\x01\xc0\x01"}, {2, full}, {3, full}, {4, full}, {5, full}}, []string{full + full + full}, -1},
		{"two records", []block{{1, "\x01\x01"}, {2, "a"}, {3, "\x01\x01"}, {4, "b"}}, []string{"a", "b"}, -1},
		{"a header as content", []block{{1, "\x01\x40"}, {2, "\x01\x01"}, {3, ""}}, []string{pad("\x01\x01")}, 64},
		{"garbage after the end", []block{{1, "\x01\x00"}, {2, ""}, {3, full}, {4, "\x01\x05"}}, []string{""}, 128},
		{"garbage in the other region", []block{{5, full}, {6, "\x02"}}, []string{}, 192},
		{"mark 2", []block{{1, "\x02"}}, nil, 0},
		{"mark 255", []block{{1, "\xff"}}, nil, 0},
		{"long length", []block{{1, "\x01\x80\x00"}}, nil, 0},
		{"long length of 1", []block{{1, "\x01\x81\x00"}, {2, "a"}}, nil, 0},
		{"byte after the length", []block{{1, "\x01\x00\x01"}}, nil, 0},
		{"last byte of the header", []block{{1, pad("\x01\x00")[:63] + "\x01"}}, nil, 0},
		{"a byte beyond the region", []block{{1, "\x01\xc1\x01"}}, nil, 0},
		{"far beyond the region", []block{{1, wire.PutUint("\x01", 1<<40)}}, nil, 0},
		{"length of 63 bits", []block{{1, wire.PutUint("\x01", 1<<63-1)}}, nil, 0},
		{"length of 64 bits", []block{{1, wire.PutUint("\x01", 1<<64-1)}}, nil, 0},
		{"length without end", []block{{1, "\x01" + strings.Repeat("\xff", 63)}}, nil, 0},
		{"wrong second header", []block{{1, "\x01\x01"}, {2, "a"}, {3, "\x03"}}, nil, 0},
		{"second record beyond the region", []block{{1, "\x01\x01"}, {2, "a"}, {3, "\x01\x41"}}, nil, 0},
		{"last header with bytes", []block{{1, "\x01\x41"}, {2, full}, {3, full}, {4, "\x01\x01"}}, nil, 0},
		{"wrong header after a wrong one", []block{{1, "\x02"}, {2, "\x02"}}, nil, 0},
	} {
		// The same in both regions.
		for epoch := range 2 {
			l := []block{root(epoch)}
			for _, b := range y.blocks {
				at := 1 + (b.at-1+4*epoch)%8
				l = append(l, block{at, b.data})
			}
			j, err := Open(with(t, l...))
			if y.records == nil {
				if j != nil || err != api.ErrForm {
					t.Errorf("%s: Open is %v, %d", y.name, j, err)
				}
				continue
			}
			if j == nil || err != api.OK {
				t.Errorf("%s: Open is %d", y.name, err)
				continue
			}
			expect(t, j, y.records, epoch, y.space)
		}
	}
}

func TestP55_1OddBlocks(t *testing.T) {
	// With an even number of blocks the last one belongs to no region.
	d, j := formatted(t, 10)
	if err := j.Append(strings.Repeat("x", 192)); err != api.OK || j.Space() != -1 {
		t.Errorf("Append is %d, Space %d", err, j.Space())
	}
	if err := j.Reset([]string{strings.Repeat("y", 192)}); err != api.OK || j.Space() != -1 {
		t.Errorf("Reset is %d, Space %d", err, j.Space())
	}
	if s, _ := d.Read(9); s != strings.Repeat("\xee", 64) {
		t.Error("the last block was written")
	}
	expect(t, open(t, d), []string{strings.Repeat("y", 192)}, 1, -1)
}

func TestP55_1NilJournal(t *testing.T) {
	var j *Journal
	if j.Records() != nil || j.Epoch() != 0 || j.Space() != -1 || j.Append("") != api.ErrArg || j.Append("x") != api.ErrArg || j.Reset(nil) != api.ErrArg || j.Reset([]string{"x"}) != api.ErrArg {
		t.Error("a nil journal")
	}
}

func TestP55_2Examples(t *testing.T) {
	d, j := formatted(t, 9)
	expect(t, j, nil, 0, 192)
	s := strings.Repeat("x", 100)
	if err := j.Append(s); err != api.OK {
		t.Errorf("Append is %d", err)
	}
	expect(t, j, []string{s}, 0, 0)
	writes(t, d, 11, block{2, s[:64]}, block{3, s[64:]}, block{4, ""}, block{1, "\x01\x64"})
}

func TestP55_2Append(t *testing.T) {
	d, j := formatted(t, 13) // regions of 6 blocks
	full := strings.Repeat("f", 64)
	for _, y := range []struct {
		s      string
		err    api.Errno
		space  int
		writes []block
	}{
		{"", api.OK, 256, []block{{2, ""}, {1, "\x01\x00"}}},
		{strings.Repeat("x", 257), api.ErrFull, 256, nil},
		{full, api.OK, 128, []block{{3, full}, {4, ""}, {2, "\x01\x40"}}},
		{full + full + "x", api.ErrFull, 128, nil},
		{"ab", api.OK, 0, []block{{5, "ab"}, {6, ""}, {4, "\x01\x02"}}},
		{"x", api.ErrFull, 0, nil},
		{"", api.OK, -1, []block{{6, "\x01\x00"}}},
		{"", api.ErrFull, -1, nil},
		{"x", api.ErrFull, -1, nil},
	} {
		before := d.Writes()
		if err := j.Append(y.s); err != y.err || j.Space() != y.space {
			t.Fatalf("Append of %d bytes is %d, Space %d", len(y.s), err, j.Space())
		}
		writes(t, d, before, y.writes...)
	}
	expect(t, j, []string{"", full, "ab", ""}, 0, -1)
	expect(t, open(t, d), []string{"", full, "ab", ""}, 0, -1)
}

// A record that fills the region is followed by no zero block, one that leaves a block is.
func TestP55_2AppendAtTheEnd(t *testing.T) {
	for _, y := range []struct {
		n, blocks int
		writes    int
	}{{64 * 3, 9, 4}, {64*3 - 63, 9, 4}, {64 * 2, 9, 4}, {64*2 - 63, 9, 4}, {64, 5, 2}, {1, 5, 2}, {0, 5, 2}} {
		d, j := formatted(t, y.blocks)
		before := d.Writes()
		if err := j.Append(strings.Repeat("x", y.n)); err != api.OK || d.Writes()-before != y.writes {
			t.Errorf("Append of %d bytes is %d with %d writes", y.n, err, d.Writes()-before)
		}
		if s, _ := d.Read(1 + (y.blocks-1)/2); s != strings.Repeat("\xee", 64) {
			t.Error("the other region was written")
		}
	}
}

func TestP55_2LongRecords(t *testing.T) {
	d, j := formatted(t, api.MaxBlocks)
	s := strings.Repeat("0123456789", 100000)
	if err := j.Append(s); err != api.OK {
		t.Fatalf("Append is %d", err)
	}
	want := 64 * ((api.MaxBlocks-1)/2 - 1 - 15625 - 1)
	expect(t, j, []string{s}, 0, want)
	expect(t, open(t, d), []string{s}, 0, want)
}

func TestP55_2Reset(t *testing.T) {
	d, j := formatted(t, 13)
	full := strings.Repeat("f", 64)
	for i, y := range []struct {
		l      []string
		err    api.Errno
		space  int
		writes []block // without the root; the last one is at the end
	}{
		{nil, api.OK, 320, []block{{7, ""}}},
		{[]string{"ab", ""}, api.OK, 128, []block{{1, "\x01\x02"}, {2, "ab"}, {3, "\x01\x00"}, {4, ""}}},
		{[]string{full + "g", full}, api.OK, 0, []block{{7, "\x01\x41"}, {8, full}, {9, "g"}, {10, "\x01\x40"}, {11, full}, {12, ""}}},
		{[]string{full + full + full + full, ""}, api.OK, -1, []block{{1, "\x01\x80\x02"}, {2, full}, {3, full}, {4, full}, {5, full}, {6, "\x01\x00"}}},
		{[]string{full + full + full + full + full + "x"}, api.ErrFull, -1, nil},
		{[]string{"a", "b", "c", ""}, api.ErrFull, -1, nil},
		{[]string{"", "", "", "", "", "", ""}, api.ErrFull, -1, nil},
		{[]string{"", "", "", "", "", ""}, api.OK, -1, []block{{7, "\x01"}, {8, "\x01"}, {9, "\x01"}, {10, "\x01"}, {11, "\x01"}, {12, "\x01"}}},
		{[]string{full + full + full + full + full}, api.OK, -1, []block{{1, "\x01\xc0\x02"}, {2, full}, {3, full}, {4, full}, {5, full}, {6, full}}},
	} {
		before, records, epoch := d.Writes(), j.Records(), j.Epoch()
		if err := j.Reset(y.l); err != y.err {
			t.Fatalf("%d: Reset is %d, not %d", i, err, y.err)
		}
		if y.err == api.OK {
			records, epoch = y.l, epoch+1
			checkReset(t, d, before, append(y.writes, block{0, wire.PutUint("MAPJ", uint64(epoch))}))
		} else if d.Writes() != before {
			t.Errorf("%d: Reset writes and fails", i)
		}
		expect(t, j, records, epoch, y.space)
		expect(t, open(t, d), records, epoch, y.space)
	}
}

// checkReset checks that these blocks were written, each once, and the last one at last; the order of the others does not matter.
func checkReset(t *testing.T, d *device.Device, before int, want []block) {
	t.Helper()
	if d.Writes()-before != len(want) {
		t.Fatalf("%d writes, not %d", d.Writes()-before, len(want))
	}
	state := blocks(t, d.After(before))
	for _, b := range want[:len(want)-1] {
		state[b.at] = pad(b.data)
	}
	if !slices.Equal(state, blocks(t, d.After(d.Writes()-1))) {
		t.Error("Reset writes something else before the root")
	}
	last := want[len(want)-1]
	state[last.at] = pad(last.data)
	if !slices.Equal(state, blocks(t, d)) {
		t.Error("Reset does not write the root at last")
	}
}

func TestP55_2LastEpoch(t *testing.T) {
	d := with(t, root(api.MaxID), block{5, "\x01\x01"}, block{6, "a"})
	j := open(t, d)
	expect(t, j, []string{"a"}, api.MaxID, 64)
	if err := j.Append("b"); err != api.OK {
		t.Fatalf("Append is %d", err)
	}
	if err := j.Reset([]string{"c"}); err != api.OK {
		t.Fatalf("Reset is %d", err)
	}
	expect(t, j, []string{"c"}, 0, 64)
	expect(t, open(t, d), []string{"c"}, 0, 64)
	d = with(t, root(api.MaxID-1))
	j = open(t, d)
	if err := j.Reset([]string{"c"}); err != api.OK {
		t.Fatalf("Reset is %d", err)
	}
	expect(t, open(t, d), []string{"c"}, api.MaxID, 64)
}

func TestP55_2WriteErrors(t *testing.T) {
	for n := range 4 {
		d, j := formatted(t, 9)
		d.Limit(n)
		if err := j.Append(strings.Repeat("x", 100)); err != api.ErrFull || d.Writes() != 11+n {
			t.Errorf("Append with %d writes is %d after %d", n, err, d.Writes()-11)
		}
		d, j = formatted(t, 9)
		d.Limit(n)
		if err := j.Reset([]string{"x", ""}); err != api.ErrFull || d.Writes() != 11+n {
			t.Errorf("Reset with %d writes is %d after %d", n, err, d.Writes()-11)
		}
	}
}

// randomRecord returns a record of up to three blocks.
func randomRecord(r *rand.Rand) string {
	b := make([]byte, r.Intn(3)*64+r.Intn(3)*r.Intn(32))
	for i := range b {
		b[i] = byte(r.Intn(3))
	}
	return string(b)
}

// Every crash during an operation leaves the records before it, until its last write.
func TestP55_3Crashes(t *testing.T) {
	r := rand.New(rand.NewSource(1))
	done := map[bool]int{}
	for range 60 {
		n := 5 + r.Intn(30)
		d, j := formatted(t, n)
		var records []string
		epoch := 0
		for range 25 {
			before, old, oldEpoch := d.Writes(), slices.Clone(records), epoch
			var err api.Errno
			if r.Intn(4) > 0 {
				s := randomRecord(r)
				fits := len(s) <= j.Space()
				if err = j.Append(s); (err == api.OK) != fits {
					t.Fatalf("Append of %d bytes is %d, Space was %v", len(s), err, fits)
				}
				if err == api.OK {
					records = append(records, s)
				}
			} else {
				var l []string
				need := 0
				for range r.Intn(4) {
					l = append(l, randomRecord(r))
					need += 1 + (len(l[len(l)-1])+63)/64
				}
				if err = j.Reset(l); (err == api.OK) != (need <= (n-1)/2) {
					t.Fatalf("Reset with %d blocks is %d", need, err)
				}
				if err == api.OK {
					records, epoch = l, epoch+1
				}
			}
			done[err == api.OK]++
			if err != api.OK && (err != api.ErrFull || d.Writes() != before) {
				t.Fatalf("the error is %d, after %d writes", err, d.Writes()-before)
			}
			for k := before; k < d.Writes(); k++ {
				crashed := open(t, d.After(k))
				if !slices.Equal(crashed.Records(), old) || crashed.Epoch() != oldEpoch {
					t.Fatalf("after %d of %d writes there is %q, not %q", k-before, d.Writes()-before, crashed.Records(), old)
				}
			}
			after := open(t, d.After(d.Writes()))
			if !slices.Equal(after.Records(), records) || after.Epoch() != epoch || after.Space() != j.Space() || !slices.Equal(j.Records(), records) || j.Epoch() != epoch {
				t.Fatalf("after all writes there is %q, not %q", after.Records(), records)
			}
		}
	}
	if done[true] < 300 || done[false] < 100 {
		t.Errorf("only %d operations succeeded and %d failed", done[true], done[false])
	}
}

// After a crash the journal goes on with what it had, whatever the interrupted operation left behind.
func TestP55_3GoOn(t *testing.T) {
	d, j := formatted(t, 21)
	long := strings.Repeat("\x01\x01", 100)
	if j.Append("a") != api.OK || j.Append(long) != api.OK || j.Reset([]string{"b", long}) != api.OK || j.Append("") != api.OK {
		t.Fatal("no journal")
	}
	for k := 23; k <= d.Writes(); k++ {
		crashed := d.After(k)
		j := open(t, crashed)
		want := append(j.Records(), "new")
		if err := j.Append("new"); err != api.OK {
			t.Fatalf("Append after %d writes is %d", k, err)
		}
		expect(t, open(t, crashed), want, j.Epoch(), j.Space())
	}
}

func TestP55_Aliasing(t *testing.T) {
	d, j := formatted(t, 21)
	l := []string{"a", "b"}
	if j.Reset(l) != api.OK {
		t.Fatal("no journal")
	}
	l[0] = "x"
	j.Records()[1] = "y"
	first := j.Records()
	if j.Append("c") != api.OK {
		t.Fatal("no record")
	}
	_ = append(first, "z")
	expect(t, j, []string{"a", "b", "c"}, 1, 64*3)
	expect(t, open(t, d), []string{"a", "b", "c"}, 1, 64*3)
}

// Two journals of different devices do not affect each other.
func TestP55_Independent(t *testing.T) {
	d, j := formatted(t, 21)
	if j.Append("a") != api.OK {
		t.Fatal("no record")
	}
	k := open(t, d.After(d.Writes()))
	if j.Append("b") != api.OK || k.Append("c") != api.OK {
		t.Fatal("no record")
	}
	expect(t, j, []string{"a", "b"}, 0, 64*5)
	expect(t, k, []string{"a", "c"}, 0, 64*5)
}
