// Package row: all cells of a document, in one row, and what has happened to
// them.
package row

import (
	"veil/api"
	"veil/order"
)

// cell: a byte that was inserted, the level that inserted it, and what has come
// of it for each level.
//
// What happened, one behind the other, is not kept: nothing hangs on that but
// what came of it.
type cell struct {
	char   byte
	origin int
	state  [api.MaxLabels]state
}

// state: what has come of a cell for one level: whether a deletion counts, its
// label, and whether it is free.
type state struct {
	gone  bool
	label int
	free  bool
}

// Row: all cells, and the order of the levels that work at them.
type Row struct {
	order order.Order
	cells []cell
}

// Seen: a cell that is there for a level: its number in the row, its byte, and
// whether its label hides it from the level, or it is free for it.
type Seen struct {
	At     int
	Char   byte
	Hidden bool
	Free   bool
}

// New gives the empty row.
func New(o order.Order) Row {
	return Row{order: o}
}

// Insert makes cells of the text's bytes, which stand from the number at on. A
// number that is none changes nothing.
func (r *Row) Insert(level int, at int, text string) {
	if at < 0 || at > len(r.cells) {
		return
	}
	var cells []cell
	cells = append(cells, r.cells[:at]...)
	for i := 0; i < len(text); i++ {
		cells = append(cells, newCell(text[i], level))
	}
	cells = append(cells, r.cells[at:]...)
	r.cells = cells
}

func newCell(char byte, origin int) cell {
	c := cell{char: char, origin: origin}
	for d := 0; d < api.MaxLabels; d++ {
		c.state[d].label = origin
	}
	return c
}

// Delete: the level deletes the cells from the number first to the number last.
func (r *Row) Delete(level int, first int, last int) {
	for i := 0; i < len(r.cells); i++ {
		if r.isMeant(i, level, first, last) {
			r.cells[i] = r.deleted(r.cells[i], level)
		}
	}
}

// Raise: the level raises the cells from the number first to the number last to
// a label, which is one.
func (r *Row) Raise(level int, first int, last int, label int) {
	for i := 0; i < len(r.cells); i++ {
		if r.isMeant(i, level, first, last) {
			r.cells[i] = r.raised(r.cells[i], level, label)
		}
	}
}

// Release: the level releases the cells from the number first to the number
// last to a target.
func (r *Row) Release(level int, first int, last int, target int) {
	for i := 0; i < len(r.cells); i++ {
		if r.isMeant(i, level, first, last) {
			r.cells[i] = r.released(r.cells[i], target)
		}
	}
}

// StemFrom tells whether all cells that the level means from the number first
// to the number last have origins that are at most the target.
func (r *Row) StemFrom(level int, first int, last int, target int) bool {
	for i := 0; i < len(r.cells); i++ {
		if r.isMeant(i, level, first, last) && !r.order.Leq(r.cells[i].origin, target) {
			return false
		}
	}
	return true
}

// isMeant tells whether a level that names the cells from first to last means
// the one of the number i. Those between them that are not there for the level
// it cannot mean.
func (r *Row) isMeant(i int, level int, first int, last int) bool {
	return i >= 0 && i < len(r.cells) && i >= first && i <= last && r.isThere(r.cells[i], level)
}

// deleted gives the cell behind its deletion by a level.
func (r *Row) deleted(c cell, level int) cell {
	for d := 0; d < api.MaxLabels; d++ {
		if r.order.Leq(level, d) {
			c.state[d].gone = true
		}
	}
	return c
}

// raised gives the cell behind its raising by a level.
func (r *Row) raised(c cell, level int, label int) cell {
	for d := 0; d < api.MaxLabels; d++ {
		if r.order.Leq(level, d) {
			c.state[d].label = r.order.Join(c.state[d].label, label)
			c.state[d].free = false
		}
	}
	return c
}

// released gives the cell behind its release to a target.
func (r *Row) released(c cell, target int) cell {
	for d := 0; d < api.MaxLabels; d++ {
		if r.order.Leq(target, d) {
			c.state[d].label = c.origin
			c.state[d].free = true
		}
	}
	return c
}

// FirstView gives the cells that are there for a level, in the order of the row.
func (r *Row) FirstView(level int) []Seen {
	var l []Seen
	for i, c := range r.cells {
		if r.isThere(c, level) {
			s := c.state[level]
			hidden := !r.order.Leq(s.label, level)
			l = append(l, Seen{At: i, Char: c.char, Hidden: hidden, Free: s.free})
		}
	}
	return l
}

// isThere tells whether a cell is there for a level.
func (r *Row) isThere(c cell, level int) bool {
	// Leq is false of what is no label, so the level is a number of state.
	return r.order.Leq(c.origin, level) && !c.state[level].gone
}
