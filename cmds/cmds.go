// Package cmds is layer 30: geometries as commands with relative coordinates (chapter 30).
package cmds

import (
	"mapmaker/api"
)

// The ids of the commands.
const (
	noCommand = iota
	moveTo
	lineTo
	_
	_
	_
	_
	closeRing
)

// command describes a command: the only count that it may have (0: any from 1), and how many pairs follow for each unit of the count.
type command struct {
	name         string
	count, pairs int
}

// commands has the commands by their ids; a row without a name is no command.
var commands = [8]command{
	moveTo:    {name: "MoveTo", pairs: 1},
	lineTo:    {name: "LineTo", pairs: 1},
	closeRing: {name: "Close", count: 1},
}

// Check returns the first error of a geometry.
func Check(g api.Geom) api.Errno {
	if !validKind(g.Kind) {
		return api.ErrArg
	}
	if len(g.Parts) == 0 {
		return api.ErrEmpty
	}
	for _, part := range g.Parts {
		if err := checkPart(g.Kind, part); err != api.OK {
			return err
		}
	}
	return api.OK
}

// Encode returns the commands of a geometry.
func Encode(g api.Geom) ([]int, api.Errno) {
	if err := Check(g); err != api.OK {
		return nil, err
	}
	w := &writer{}
	if g.Kind == api.GPoint {
		w.command(moveTo, len(g.Parts))
		for _, part := range g.Parts {
			w.points(part)
		}
		return w.out, api.OK
	}
	for _, part := range g.Parts {
		w.command(moveTo, 1)
		w.points(part[:1])
		w.command(lineTo, len(part)-1)
		w.points(part[1:])
		if g.Kind == api.GArea {
			w.command(closeRing, 1)
		}
	}
	return w.out, api.OK
}

// Decode returns the geometry of that kind that Encode encodes as l.
func Decode(kind int, l []int) (api.Geom, api.Errno) {
	if !validKind(kind) {
		return api.Geom{}, api.ErrArg
	}
	r := &reader{rest: l}
	parts, ok := r.parts(kind)
	g := api.Geom{Kind: kind, Parts: parts}
	if !ok || Check(g) != api.OK {
		return api.Geom{}, api.ErrForm
	}
	return g, api.OK
}

func validKind(kind int) bool {
	return kind == api.GPoint || kind == api.GLine || kind == api.GArea
}

func checkPart(kind int, part []api.Point) api.Errno {
	switch {
	case kind == api.GPoint && len(part) != 1, kind == api.GLine && len(part) < 2, kind == api.GArea && len(part) < 3:
		return api.ErrShort
	case len(part) > 4*api.MaxPoints:
		return api.ErrLong
	}
	for _, p := range part {
		if !inExtent(p) {
			return api.ErrRange
		}
	}
	return api.OK
}

func inExtent(p api.Point) bool {
	return p.X >= 0 && p.X <= api.Extent && p.Y >= 0 && p.Y <= api.Extent
}

// writer collects the integers of a geometry whose last point was at.
type writer struct {
	out []int
	at  api.Point
}

func (w *writer) command(id, count int) {
	w.out = append(w.out, id+8*count)
}

func (w *writer) points(l []api.Point) {
	for _, p := range l {
		w.out = append(w.out, zigzag(p.X-w.at.X), zigzag(p.Y-w.at.Y))
		w.at = p
	}
}

// reader takes commands from the beginning of rest; the last point was at.
type reader struct {
	rest []int
	at   api.Point
}

// parts reads all parts of a geometry of that kind and reports whether the commands have its form.
func (r *reader) parts(kind int) ([][]api.Point, bool) {
	var out [][]api.Point
	if kind == api.GPoint {
		id, l := r.next()
		for _, p := range l {
			out = append(out, []api.Point{p})
		}
		return out, id == moveTo && len(r.rest) == 0
	}
	for len(r.rest) > 0 {
		first, part := r.next()
		second, others := r.next()
		if first != moveTo || len(part) != 1 || second != lineTo {
			return nil, false
		}
		if kind == api.GArea {
			if id, _ := r.next(); id != closeRing {
				return nil, false
			}
		}
		out = append(out, append(part, others...))
	}
	return out, true
}

// next reads a command and its points; its id is noCommand if there is none.
func (r *reader) next() (id int, l []api.Point) {
	if len(r.rest) == 0 {
		return noCommand, nil
	}
	id, count := r.rest[0]&7, r.rest[0]>>3
	c := commands[id]
	if c.name == "" || count < 1 || c.count > 0 && count != c.count {
		return noCommand, nil
	}
	r.rest = r.rest[1:]
	pairs := count * c.pairs
	if pairs > len(r.rest)/2 {
		return noCommand, nil
	}
	for range pairs {
		if !r.step(r.rest[0], r.rest[1]) {
			return noCommand, nil
		}
		l = append(l, r.at)
		r.rest = r.rest[2:]
	}
	return id, l
}

// step moves to the next point. Leaving the extent fails at once, so that no sum of differences overflows.
func (r *reader) step(dx, dy int) bool {
	if dx < 0 || dy < 0 {
		return false
	}
	r.at = api.Point{X: r.at.X + unzigzag(dx), Y: r.at.Y + unzigzag(dy)}
	return inExtent(r.at)
}

// zigzag returns 2n for a difference n of at least 0 and -2n - 1 for a negative one.
func zigzag(n int) int {
	if n < 0 {
		return -2*n - 1
	}
	return 2 * n
}

func unzigzag(n int) int {
	if n%2 == 1 {
		return ^(n / 2)
	}
	return n / 2
}
