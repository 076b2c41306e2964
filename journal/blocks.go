package journal

import (
	"strings"

	"mapmaker/api"
	"mapmaker/device"
	"mapmaker/wire"
)

// The beginnings of a root and of a header.
const (
	rootMark   = "MAPJ"
	headerMark = "\x01"
)

// block is a block that is to be written.
type block struct {
	at   int
	data string
}

// write writes the blocks in order, up to the first error.
func write(d *device.Device, l []block) api.Errno {
	for _, b := range l {
		if err := d.Write(b.at, b.data); err != api.OK {
			return err
		}
	}
	return api.OK
}

func root(epoch int) block {
	return block{at: 0, data: wire.PutUint(rootMark, uint64(epoch))}
}

// record returns the blocks of a record whose header is the block at.
func record(at int, s string) (header block, body []block) {
	header = block{at: at, data: wire.PutUint(headerMark, uint64(len(s)))}
	for len(s) > 0 {
		n := min(len(s), api.BlockSize)
		at++
		body = append(body, block{at: at, data: s[:n]})
		s = s[n:]
	}
	return header, body
}

// layout returns the blocks of a region with these records: all of them, and the one that ends the sequence.
func layout(d *device.Device, epoch int, l []string) []block {
	var out []block
	at := start(d, epoch)
	end := at + region(d)
	for _, s := range l {
		header, body := record(at, s)
		out = append(append(out, header), body...)
		at += size(s)
	}
	if at < end {
		out = append(out, block{at: at})
	}
	return out
}

// parse returns the journal on the device. It panics if a block is malformed.
func parse(d *device.Device) *Journal {
	j := &Journal{device: d, epoch: number(read(d, 0), rootMark, api.MaxID)}
	for j.left() > 0 {
		at := start(d, j.epoch) + j.used
		header := read(d, at)
		if header[0] == 0 {
			break
		}
		// A length beyond the space means a record beyond the region.
		s := body(d, at+1, number(header, headerMark, j.Space()))
		j.records = append(j.records, s)
		j.used += size(s)
	}
	return j
}

// number returns the number in a block that must consist of the mark, a number of at most most, and zero bytes.
func number(s, mark string, most int) int {
	if !strings.HasPrefix(s, mark) {
		panic("a block without its mark")
	}
	r := wire.Read(s[len(mark):])
	n := r.Count(most)
	if r.Err() != api.OK || strings.Trim(s[len(s)-r.Left():], "\x00") != "" {
		panic("a block with a wrong number or other bytes")
	}
	return n
}

// body returns the first n bytes of the blocks from at.
func body(d *device.Device, at, n int) string {
	var out []byte
	for len(out) < n {
		out = append(out, read(d, at)...)
		at++
	}
	return string(out[:n])
}

// read returns a block of the layout, all of which exist.
func read(d *device.Device, at int) string {
	s, _ := d.Read(at)
	return s
}
