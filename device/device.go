// Package device is layer 54: a block device whose state after each write can be examined (chapter 54).
package device

import (
	"slices"

	"mapmaker/api"
)

type block [api.BlockSize]byte

// write is a successful write of the history.
type write struct {
	at   int
	data block
}

// Device is a block device with its history.
type Device struct {
	first   []block // before the first write
	now     []block
	history []write
	limited bool
	left    int // the writes that a limit still permits
}

// New returns a device with that many blocks of zero bytes, or nil if the number is out of range.
func New(blocks int) *Device {
	if blocks < 1 || blocks > api.MaxBlocks {
		return nil
	}
	return with(make([]block, blocks))
}

// Blocks returns the number of blocks.
func (d *Device) Blocks() int {
	if d == nil {
		return 0
	}
	return len(d.now)
}

// Read returns the bytes of block i.
func (d *Device) Read(i int) (string, api.Errno) {
	if err := d.check(i); err != api.OK {
		return "", err
	}
	return string(d.now[i][:]), api.OK
}

// Write replaces block i by s, padded with zero bytes.
func (d *Device) Write(i int, s string) api.Errno {
	if err := d.check(i); err != api.OK {
		return err
	}
	if len(s) > api.BlockSize {
		return api.ErrLong
	}
	if d.limited && d.left == 0 {
		return api.ErrFull
	}
	w := write{at: i}
	copy(w.data[:], s)
	d.now[i] = w.data
	d.history = append(d.history, w)
	if d.limited {
		d.left--
	}
	return api.OK
}

// Writes returns the number of successful writes.
func (d *Device) Writes() int {
	if d == nil {
		return 0
	}
	return len(d.history)
}

// After returns an independent device with the state after that many successful writes.
func (d *Device) After(writes int) *Device {
	if d == nil {
		return nil
	}
	blocks := slices.Clone(d.first)
	for _, w := range d.history[:max(0, min(writes, len(d.history)))] {
		blocks[w.at] = w.data
	}
	return with(blocks)
}

// Limit permits that many further writes.
func (d *Device) Limit(writes int) {
	if d == nil {
		return
	}
	d.limited, d.left = true, max(0, writes)
}

// with returns a device without a history that begins with these blocks.
func with(blocks []block) *Device {
	return &Device{first: blocks, now: slices.Clone(blocks)}
}

func (d *Device) check(i int) api.Errno {
	if d == nil {
		return api.ErrArg
	}
	if i < 0 || i >= len(d.now) {
		return api.ErrRange
	}
	return api.OK
}
