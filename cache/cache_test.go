package cache

import (
	"math"
	"math/rand"
	"slices"
	"strings"
	"testing"

	"mapmaker/api"
	"mapmaker/device"
	"mapmaker/journal"
	"mapmaker/tilegrid"
	"mapmaker/tileset"
	"mapmaker/wire"
)

func blob(z, x, y int, bytes string) api.Blob {
	return api.Blob{Tile: api.Tile{Z: z, X: x, Y: y}, Bytes: bytes}
}

// formatted returns a device of that many blocks with a cache.
func formatted(t *testing.T, blocks int) (*device.Device, *Cache) {
	t.Helper()
	d := device.New(blocks)
	if err := Format(d); err != api.OK {
		t.Fatalf("Format returns %d", err)
	}
	return d, open(t, d)
}

func open(t *testing.T, d *device.Device) *Cache {
	t.Helper()
	c, err := Open(d)
	if c == nil || err != api.OK {
		t.Fatalf("Open returns %d", err)
	}
	return c
}

func put(t *testing.T, c *Cache, version int, delta ...api.Blob) {
	t.Helper()
	if err := c.Put(version, delta); err != api.OK {
		t.Fatalf("Put(%d, %v) returns %d", version, delta, err)
	}
}

func compact(t *testing.T, c *Cache) {
	t.Helper()
	if err := c.Compact(); err != api.OK {
		t.Fatalf("Compact returns %d", err)
	}
}

// expect checks what a cache says about itself.
func expect(t *testing.T, c *Cache, version int, tiles ...api.Blob) {
	t.Helper()
	if got := c.Tiles(); c.Version() != version || !slices.Equal(got, tiles) {
		t.Fatalf("the version is %d with the tiles %v, not %d with %v", c.Version(), got, version, tiles)
	}
}

func recordsOf(t *testing.T, d *device.Device) []string {
	t.Helper()
	j, err := journal.Open(d)
	if err != api.OK {
		t.Fatalf("journal.Open returns %d", err)
	}
	return j.Records()
}

// with returns a device whose journal has these records.
func with(t *testing.T, l ...string) *device.Device {
	t.Helper()
	d := device.New(999)
	if err := journal.Format(d); err != api.OK {
		t.Fatal(err)
	}
	j, err := journal.Open(d)
	if err != api.OK {
		t.Fatal(err)
	}
	for _, s := range l {
		if err := j.Append(s); err != api.OK {
			t.Fatal(err)
		}
	}
	return d
}

// record returns a record as chapter 57 describes it.
func record(version int, l ...api.Blob) string {
	s := wire.PutUint(wire.PutInt("", version), uint64(len(l)))
	for _, x := range l {
		s = wire.PutText(wire.PutInt(wire.PutInt(wire.PutInt(s, x.Tile.Z), x.Tile.X), x.Tile.Y), x.Bytes)
	}
	return s
}

func TestP57_1Example(t *testing.T) {
	d, c := formatted(t, 50)
	put(t, c, 0, blob(3, 1, 2, "x"))
	expect(t, c, 0, blob(3, 1, 2, "x"))
	put(t, c, 1, blob(3, 1, 2, ""))
	expect(t, c, 1)
	expect(t, open(t, d), 1)
}

func TestP57_1Records(t *testing.T) {
	d, c := formatted(t, 50)
	if l := recordsOf(t, d); len(l) != 0 {
		t.Errorf("after Format the records are %q", l)
	}
	long := strings.Repeat("y", 300)
	put(t, c, 3, blob(0, 0, 0, "ab"), blob(7, 127, 64, "\x00"))
	put(t, c, 4)
	put(t, c, 200, blob(1, 1, 0, ""), blob(1, 0, 1, long))
	want := []string{
		"\x06\x02" + "\x00\x00\x00\x02ab" + "\x0e\xfe\x01\x80\x01\x01\x00",
		"\x08\x00",
		"\x90\x03\x02" + "\x02\x02\x00\x00" + "\x02\x00\x02\xac\x02" + long,
	}
	if l := recordsOf(t, d); !slices.Equal(l, want) {
		t.Errorf("the records are %q, not %q", l, want)
	}
	compact(t, c)
	want = []string{"\x90\x03\x03" + "\x00\x00\x00\x02ab" + "\x02\x00\x02\xac\x02" + long + "\x0e\xfe\x01\x80\x01\x01\x00"}
	if l := recordsOf(t, d); !slices.Equal(l, want) {
		t.Errorf("after Compact the records are %q, not %q", l, want)
	}
	put(t, c, 201)
	if l := recordsOf(t, d); !slices.Equal(l, append(want, "\x92\x03\x00")) {
		t.Errorf("after Compact and Put the records are %q", l)
	}
}

// What the document describes is read, and written in the same way.
func TestP57_1OwnRecords(t *testing.T) {
	l := []string{record(2, blob(2, 3, 1, "a")), record(9), record(math.MaxInt, blob(0, 0, 0, "b"), blob(2, 3, 1, "c"))}
	written := with(t, l...)
	expect(t, open(t, written), math.MaxInt, blob(0, 0, 0, "b"), blob(2, 3, 1, "c"))
	d, c := formatted(t, 999)
	put(t, c, 2, blob(2, 3, 1, "a"))
	put(t, c, 9)
	put(t, c, math.MaxInt, blob(0, 0, 0, "b"), blob(2, 3, 1, "c"))
	if got := recordsOf(t, d); !slices.Equal(got, l) {
		t.Errorf("the records are %q, not %q", got, l)
	}
}

func TestP57_1FormatErrors(t *testing.T) {
	for _, x := range []struct {
		name string
		d    *device.Device
		want api.Errno
	}{
		{"no device", nil, api.ErrArg}, {"1 block", device.New(1), api.ErrShort}, {"4 blocks", device.New(4), api.ErrShort}, {"5 blocks", device.New(5), api.OK}, {"6 blocks", device.New(6), api.OK},
	} {
		if err := Format(x.d); err != x.want {
			t.Errorf("Format with %s returns %d, not %d", x.name, err, x.want)
		}
		if c, err := Open(x.d); err != x.want || (c != nil) != (err == api.OK) {
			t.Errorf("Open with %s returns %d, not %d", x.name, err, x.want)
		}
	}
	for limit := range 3 {
		d := device.New(9)
		d.Limit(limit)
		if err := Format(d); (err == api.OK) != (limit == 2) || err != api.OK && err != api.ErrFull {
			t.Errorf("Format with %d writes returns %d", limit, err)
		}
	}
	// A cache that is in use is emptied.
	d, c := formatted(t, 50)
	put(t, c, 7, blob(0, 0, 0, "x"))
	if err := Format(d); err != api.OK {
		t.Fatal(err)
	}
	expect(t, open(t, d), -1)
}

func TestP57_1OpenErrors(t *testing.T) {
	a, b := blob(1, 1, 0, "a"), blob(1, 0, 1, "b")
	good := record(3, a, b)
	broken := device.New(9)
	if Format(broken) != api.OK || broken.Write(1, "\x02") != api.OK {
		t.Fatal("no device")
	}
	for _, x := range []struct {
		name string
		d    *device.Device
		want api.Errno
	}{
		{"no device", nil, api.ErrArg}, {"4 blocks", device.New(4), api.ErrShort}, {"no journal", device.New(9), api.ErrForm}, {"a broken journal", broken, api.ErrForm},
		{"no records", with(t), api.OK}, {"two tiles", with(t, good), api.OK}, {"no tiles", with(t, record(0)), api.OK}, {"tiles without bytes", with(t, record(0, blob(5, 5, 5, ""))), api.OK}, {"the last version", with(t, record(math.MaxInt, a)), api.OK}, {"two records", with(t, good, record(4, a)), api.OK},
		{"an empty record", with(t, ""), api.ErrForm}, {"an empty record at last", with(t, good, ""), api.ErrForm}, {"a version only", with(t, "\x06"), api.ErrForm}, {"half a version", with(t, "\x86"), api.ErrForm}, {"a version that is too long", with(t, strings.Repeat("\xff", 10)+"\x00"), api.ErrForm}, {"a version with two encodings", with(t, "\x86\x00\x00"), api.ErrForm},
		{"version -1", with(t, record(-1, a)), api.ErrForm}, {"version -2", with(t, record(-2)), api.ErrForm}, {"the smallest version", with(t, record(math.MinInt, a)), api.ErrForm},
		{"a version twice", with(t, good, record(3, a)), api.ErrForm}, {"a smaller version", with(t, good, record(2)), api.ErrForm}, {"a negative version at last", with(t, good, record(-4)), api.ErrForm}, {"versions in disorder", with(t, good, record(5), record(4)), api.ErrForm},
		{"a record that ends early", with(t, good[:len(good)-1]), api.ErrForm}, {"a record with a further byte", with(t, good+"\x00"), api.ErrForm}, {"a further byte at last", with(t, good, record(4)+"\x00"), api.ErrForm},
		{"a count that is too large", with(t, "\x06\x03"+good[2:]), api.ErrForm}, {"a count that is too small", with(t, "\x06\x01"+good[2:]), api.ErrForm}, {"a huge count", with(t, wire.PutUint("\x06", math.MaxInt)+good[2:]), api.ErrForm}, {"the greatest count", with(t, wire.PutUint("\x06", math.MaxUint64)), api.ErrForm},
		{"a text that is too long", with(t, "\x06\x01\x00\x00\x00\x03ab"), api.ErrForm}, {"a text that is too short", with(t, "\x06\x01\x00\x00\x00\x01ab"), api.ErrForm}, {"a huge text", with(t, wire.PutUint("\x06\x01\x00\x00\x00", math.MaxInt)+"ab"), api.ErrForm}, {"a number with two encodings", with(t, "\x06\x01\x80\x00\x00\x00\x01a"), api.ErrForm},
		{"a zoom 8", with(t, record(3, blob(8, 0, 0, "a"))), api.ErrForm}, {"a zoom -1", with(t, record(3, blob(-1, 0, 0, "a"))), api.ErrForm}, {"a large column", with(t, record(3, a, blob(2, 4, 0, "a"))), api.ErrForm}, {"a large row", with(t, record(3, blob(2, 0, 4, "a"))), api.ErrForm}, {"a negative row", with(t, record(3, blob(2, 0, -1, "a"))), api.ErrForm}, {"a bad tile without bytes", with(t, record(3, blob(0, 1, 0, ""))), api.ErrForm}, {"huge numbers", with(t, record(3, blob(math.MaxInt, math.MinInt, math.MaxInt, "a"))), api.ErrForm},
		{"tiles in disorder", with(t, record(3, b, a)), api.ErrForm}, {"a tile twice", with(t, record(3, a, a)), api.ErrForm}, {"a tile twice, without bytes", with(t, record(3, a, blob(1, 1, 0, ""))), api.ErrForm}, {"zooms in disorder", with(t, record(3, a, blob(0, 0, 0, "x"))), api.ErrForm}, {"disorder at last", with(t, good, record(4, b, a)), api.ErrForm},
	} {
		c, err := Open(x.d)
		if err != x.want || (c != nil) != (err == api.OK) {
			t.Errorf("Open of %s returns %d, not %d", x.name, err, x.want)
		}
	}
}

// P1: a record that is changed a little is not accepted, or it is the one encoding of what it says.
func TestP57_1OneEncoding(t *testing.T) {
	r := rand.New(rand.NewSource(1))
	accepted := 0
	for range 20000 {
		s := []byte(record(r.Intn(100), someDelta(r)...))
		for range 1 + r.Intn(2) {
			s[r.Intn(len(s))] = byte(r.Intn(256) >> r.Intn(8))
		}
		if r.Intn(4) == 0 {
			s = s[:r.Intn(len(s)+1)]
		}
		version, delta, err := decode(string(s))
		if err != api.OK {
			if version != 0 || len(delta) != 0 {
				t.Fatalf("%q is rejected with %d, %v", s, version, delta)
			}
			continue
		}
		accepted++
		if again := record(version, delta...); again != string(s) {
			t.Fatalf("%q and %q are the same", s, again)
		}
	}
	if accepted < 3000 {
		t.Errorf("only %d records were accepted", accepted)
	}
}

// someDelta returns changes of few tiles, in order.
func someDelta(r *rand.Rand) (out []api.Blob) {
	ids := map[int]bool{}
	for range r.Intn(6) {
		ids[r.Intn(8)*(1+r.Intn(3))] = true
	}
	for id := range 22 {
		if ids[id] {
			tile, _ := tilegrid.Tile(id)
			out = append(out, api.Blob{Tile: tile, Bytes: strings.Repeat(string(rune('a'+r.Intn(26))), r.Intn(4)*r.Intn(20))})
		}
	}
	return out
}

func TestP57_1Patches(t *testing.T) {
	r := rand.New(rand.NewSource(2))
	removed := 0
	for range 30 {
		d, c := formatted(t, 999)
		var want []api.Blob
		version := -1
		for range 20 {
			delta := someDelta(r)
			next := tileset.Patch(want, delta)
			if len(next) < len(want) {
				removed++
			}
			version, want = version+1+r.Intn(3), next
			put(t, c, version, delta...)
			if r.Intn(9) == 0 {
				compact(t, c)
			}
			expect(t, c, version, want...)
			expect(t, open(t, d), version, want...)
			if tileset.Check(c.Tiles()) != api.OK {
				t.Fatalf("the tiles are %v", c.Tiles())
			}
		}
	}
	if removed < 50 {
		t.Errorf("only %d deltas remove tiles", removed)
	}
}

func TestP57_2PutErrors(t *testing.T) {
	a, b := blob(1, 1, 0, "a"), blob(1, 0, 1, "b")
	for _, x := range []struct {
		name    string
		version int
		delta   []api.Blob
		want    api.Errno
	}{
		{"the same version", 3, []api.Blob{a}, api.ErrVersion}, {"a smaller version", 2, nil, api.ErrVersion}, {"version 0", 0, nil, api.ErrVersion}, {"version -1", -1, nil, api.ErrVersion}, {"the smallest version", math.MinInt, nil, api.ErrVersion}, {"the same version and disorder", 3, []api.Blob{b, a}, api.ErrVersion}, {"a smaller version and a bad tile", 1, []api.Blob{blob(8, 0, 0, "")}, api.ErrVersion}, {"a smaller version and many bytes", 1, []api.Blob{blob(0, 0, 0, strings.Repeat("x", 2000))}, api.ErrVersion},
		{"disorder", 4, []api.Blob{b, a}, api.ErrOrder}, {"a tile twice", 4, []api.Blob{a, a}, api.ErrOrder}, {"a tile twice, once without bytes", 4, []api.Blob{blob(1, 1, 0, ""), a}, api.ErrOrder}, {"disorder at last", 4, []api.Blob{a, b, blob(0, 0, 0, "c")}, api.ErrOrder},
		{"a zoom 8", 4, []api.Blob{blob(8, 0, 0, "x")}, api.ErrOrder}, {"a zoom -1", 4, []api.Blob{blob(-1, 0, 0, "x")}, api.ErrOrder}, {"a large column", 4, []api.Blob{blob(0, 1, 0, "x")}, api.ErrOrder}, {"a large row at last", 4, []api.Blob{a, blob(3, 0, 8, "")}, api.ErrOrder}, {"a negative column", math.MaxInt, []api.Blob{blob(3, -1, 0, "x")}, api.ErrOrder}, {"huge numbers", 4, []api.Blob{blob(math.MinInt, math.MaxInt, math.MinInt, "x")}, api.ErrOrder},
		{"disorder and many bytes", 4, []api.Blob{b, blob(0, 0, 0, strings.Repeat("x", 2000))}, api.ErrOrder},
		{"many bytes", 4, []api.Blob{blob(0, 0, 0, strings.Repeat("x", 64*11-8))}, api.ErrFull}, {"many tiles", 4, manyTiles(999, "x"), api.ErrFull},
	} {
		d, c := formatted(t, 27) // regions of 13 blocks, of which the first record takes two
		put(t, c, 3, a)
		writes := d.Writes()
		if err := c.Put(x.version, x.delta); err != x.want {
			t.Errorf("Put of %s returns %d, not %d", x.name, err, x.want)
		}
		expect(t, c, 3, a)
		if d.Writes() != writes {
			t.Errorf("Put of %s writes", x.name)
		}
		put(t, c, 4, b)
		expect(t, open(t, d), 4, a, b)
	}
	// The greatest delta that fits: 11 blocks are left for a header and 640 bytes.
	d, c := formatted(t, 27)
	put(t, c, 3, a)
	last := blob(0, 0, 0, strings.Repeat("x", 640-7))
	if err := c.Put(4, []api.Blob{blob(0, 0, 0, last.Bytes+"x")}); err != api.ErrFull {
		t.Errorf("Put of 641 bytes returns %d", err)
	}
	put(t, c, 4, last)
	expect(t, open(t, d), 4, last, a)
	if err := c.Put(5, nil); err != api.ErrFull {
		t.Errorf("Put without space returns %d", err)
	}
}

// manyTiles returns the first tiles with these bytes.
func manyTiles(n int, bytes string) (out []api.Blob) {
	for id := range n {
		tile, _ := tilegrid.Tile(id)
		out = append(out, api.Blob{Tile: tile, Bytes: bytes})
	}
	return out
}

func TestP57_2Versions(t *testing.T) {
	d, c := formatted(t, 200)
	expect(t, c, -1)
	for _, version := range []int{-1, -2, math.MinInt} {
		if err := c.Put(version, nil); err != api.ErrVersion {
			t.Errorf("Put(%d) of an empty cache returns %d, not ErrVersion", version, err)
		}
	}
	for _, version := range []int{0, 1, 5, 1000, math.MaxInt - 1, math.MaxInt} {
		put(t, c, version, blob(0, 0, 0, "x"))
		expect(t, c, version, blob(0, 0, 0, "x"))
		expect(t, open(t, d), version, blob(0, 0, 0, "x"))
	}
	if err := c.Put(math.MaxInt, nil); err != api.ErrVersion {
		t.Errorf("Put after the last version returns %d", err)
	}
	compact(t, c)
	expect(t, open(t, d), math.MaxInt, blob(0, 0, 0, "x"))
}

func TestP57_2WriteErrors(t *testing.T) {
	a, b := blob(1, 1, 0, "a"), blob(1, 0, 1, "b")
	for limit := range 4 {
		d, c := formatted(t, 50)
		put(t, c, 3, a)
		before := d.Writes()
		d.Limit(limit)
		err := c.Put(4, []api.Blob{b})
		done := limit == 3 // a block of bytes, a zero block and a header
		if (err == api.OK) != done || err != api.OK && err != api.ErrFull || d.Writes() != before+limit {
			t.Errorf("Put with %d writes returns %d", limit, err)
		}
		if reopened := open(t, d.After(d.Writes())); done {
			expect(t, reopened, 4, a, b)
		} else {
			expect(t, reopened, 3, a)
		}
	}
	for limit := range 5 {
		d, c := formatted(t, 50)
		put(t, c, 3, a)
		put(t, c, 4, b)
		d.Limit(limit)
		err := c.Compact()
		if (err == api.OK) != (limit == 4) || err != api.OK && err != api.ErrFull {
			t.Errorf("Compact with %d writes returns %d", limit, err)
		}
		expect(t, open(t, d.After(d.Writes())), 4, a, b)
	}
}

func TestP57_2Compact(t *testing.T) {
	d, c := formatted(t, 60)
	writes := d.Writes()
	compact(t, c)
	expect(t, c, -1)
	expect(t, open(t, d), -1)
	if d.Writes() != writes {
		t.Error("Compact of an empty cache writes")
	}
	put(t, c, 2, blob(1, 0, 0, "a"), blob(2, 0, 0, "b"))
	put(t, c, 5, blob(1, 0, 0, ""), blob(3, 0, 0, "c"))
	put(t, c, 6, blob(2, 0, 0, "d"), blob(4, 0, 0, ""))
	for range 3 {
		compact(t, c)
		expect(t, c, 6, blob(2, 0, 0, "d"), blob(3, 0, 0, "c"))
		expect(t, open(t, d), 6, blob(2, 0, 0, "d"), blob(3, 0, 0, "c"))
		if l := recordsOf(t, d); !slices.Equal(l, []string{record(6, blob(2, 0, 0, "d"), blob(3, 0, 0, "c"))}) {
			t.Errorf("the records are %q", l)
		}
	}
	if err := c.Put(6, nil); err != api.ErrVersion {
		t.Errorf("after Compact Put of the same version returns %d", err)
	}
	// Without tiles the version is kept.
	put(t, c, 7, blob(2, 0, 0, ""), blob(3, 0, 0, ""))
	compact(t, c)
	expect(t, c, 7)
	expect(t, open(t, d), 7)
	if l := recordsOf(t, d); !slices.Equal(l, []string{record(7)}) {
		t.Errorf("the records are %q", l)
	}
	put(t, c, 8, blob(3, 0, 0, "e"))
	expect(t, open(t, d), 8, blob(3, 0, 0, "e"))
}

// A cache that is full has space again after Compact, whether it has tiles or not.
func TestP57_2CompactMakesSpace(t *testing.T) {
	for _, bytes := range []string{"x", ""} {
		d, c := formatted(t, 17) // regions of 8 blocks: four records
		for version := range 40 {
			err := c.Put(version, []api.Blob{blob(0, 0, 0, bytes)})
			if version >= 4 && version%3 == 1 {
				if err != api.ErrFull {
					t.Fatalf("Put(%d) returns %d, not ErrFull", version, err)
				}
				compact(t, c)
				put(t, c, version, blob(0, 0, 0, bytes))
			} else if err != api.OK {
				t.Fatalf("Put(%d) returns %d", version, err)
			}
			expect(t, c, version, tileset.Patch(nil, []api.Blob{blob(0, 0, 0, bytes)})...)
			expect(t, open(t, d), version, c.Tiles()...)
		}
	}
}

func TestP57_2Nil(t *testing.T) {
	var c *Cache
	if c.Version() != -1 || len(c.Tiles()) != 0 || c.Put(0, nil) != api.ErrArg || c.Put(-1, []api.Blob{blob(9, 0, 0, "")}) != api.ErrArg || c.Compact() != api.ErrArg {
		t.Error("a nil cache has something")
	}
}

// All tiles at once, in the largest cache.
func TestP57_2Large(t *testing.T) {
	d, c := formatted(t, api.MaxBlocks)
	all := manyTiles(21845, strings.Repeat("0123456789", 8))
	put(t, c, 0, all...)
	expect(t, open(t, d), 0, all...)
	if err := c.Put(1, all); err != api.ErrFull {
		t.Errorf("a second Put returns %d", err)
	}
	compact(t, c)
	put(t, c, 1, blob(7, 127, 127, ""))
	expect(t, open(t, d), 1, all[:len(all)-1]...)
}

// state is what a cache says about itself.
type state struct {
	version int
	tiles   []api.Blob
}

func stateOf(c *Cache) state { return state{c.Version(), c.Tiles()} }

func (x state) same(y state) bool {
	return x.version == y.version && slices.Equal(x.tiles, y.tiles)
}

// step applies a random operation and returns its error.
func step(r *rand.Rand, c *Cache) api.Errno {
	if r.Intn(5) == 0 {
		return c.Compact()
	}
	return c.Put(c.Version()+r.Intn(4), someDelta(r))
}

func TestP57_3Crashes(t *testing.T) {
	done := map[api.Errno]int{}
	for seed := range 40 {
		r := rand.New(rand.NewSource(int64(seed)))
		d, c := formatted(t, 41)
		for range 40 {
			before, writes := stateOf(c), d.Writes()
			err := step(r, c)
			after := stateOf(c)
			done[err]++
			if err != api.OK && (!after.same(before) || d.Writes() != writes) {
				t.Fatalf("an operation that returns %d has an effect", err)
			}
			for k := writes; k <= d.Writes(); k++ {
				want := before
				if k == d.Writes() {
					want = after
				}
				if got := stateOf(open(t, d.After(k))); !got.same(want) {
					t.Fatalf("after %d of %d writes the cache has %v, not %v", k-writes, d.Writes()-writes, got, want)
				}
			}
		}
	}
	if done[api.OK] < 500 || done[api.ErrFull] < 50 || done[api.ErrVersion] < 100 {
		t.Errorf("the operations returned %v", done)
	}
}

func TestP57_3GoOnAfterCrashes(t *testing.T) {
	crashes := 0
	for seed := range 40 {
		r := rand.New(rand.NewSource(int64(seed)))
		d, c := formatted(t, 41)
		for range 60 {
			before, limit, writes := stateOf(c), r.Intn(8), d.Writes()
			d.Limit(limit)
			err := step(r, c)
			after := stateOf(c)
			if err == api.ErrFull && d.Writes()-writes == limit {
				crashes++
				after = before
			}
			// The limit ends with the crash.
			d = d.After(d.Writes())
			c = open(t, d)
			if !stateOf(c).same(after) {
				t.Fatalf("after an operation that returns %d the cache has %v, not %v", err, stateOf(c), after)
			}
		}
	}
	if crashes < 300 {
		t.Errorf("there were only %d crashes", crashes)
	}
}

func TestP57_Aliasing(t *testing.T) {
	d, c := formatted(t, 99)
	spare := []api.Blob{blob(1, 0, 0, "a"), blob(2, 0, 0, "b"), blob(3, 0, 0, "c")}
	put(t, c, 0, spare[:2]...)
	if !slices.Equal(spare, []api.Blob{blob(1, 0, 0, "a"), blob(2, 0, 0, "b"), blob(3, 0, 0, "c")}) {
		t.Error("the argument is changed")
	}
	clear(spare)
	clear(c.Tiles())
	first := c.Tiles()
	other := open(t, d.After(d.Writes()))
	put(t, c, 1, blob(2, 0, 0, "d"))
	put(t, other, 2, blob(2, 0, 0, ""))
	if !slices.Equal(first, []api.Blob{blob(1, 0, 0, "a"), blob(2, 0, 0, "b")}) {
		t.Error("a result changes later")
	}
	expect(t, c, 1, blob(1, 0, 0, "a"), blob(2, 0, 0, "d"))
	expect(t, other, 2, blob(1, 0, 0, "a"))
	expect(t, open(t, d), 1, blob(1, 0, 0, "a"), blob(2, 0, 0, "d"))
}
