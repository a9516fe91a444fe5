// Package row: all cells of a document, in one row, and what has happened to
// them.
package row

import (
	"veil/api"
	"veil/order"
)

// cell: a byte that was inserted, the level that inserted it, and the levels
// for which a deletion of it counts.
//
// Who deleted it is not kept: nothing hangs on that but for whom it counts.
type cell struct {
	char   byte
	origin int
	gone   [api.MaxLabels]bool
}

// Row: all cells, and the order of the levels that insert and delete them.
type Row struct {
	order order.Order
	cells []cell
}

// Seen: a cell that is there for a level: its number in the row, and its byte.
type Seen struct {
	At   int
	Char byte
}

// New gives the empty row.
func New(o order.Order) Row {
	return Row{order: o}
}

// Insert makes cells of the text's bytes, which stand from the number at on. A
// number that is none changes nothing.
func (r *Row) Insert(level int, at int, text string) {
	if at < 0 || at > len(r.cells) {
		return
	}
	var cells []cell
	cells = append(cells, r.cells[:at]...)
	for i := 0; i < len(text); i++ {
		cells = append(cells, cell{char: text[i], origin: level})
	}
	cells = append(cells, r.cells[at:]...)
	r.cells = cells
}

// Delete deletes the cells from the number first to the number last. Those
// between them that are not there for the level it cannot mean: they stay.
func (r *Row) Delete(level int, first int, last int) {
	for i := 0; i < len(r.cells); i++ {
		if i >= first && i <= last && r.isThere(r.cells[i], level) {
			r.cells[i].gone = r.withAbove(r.cells[i].gone, level)
		}
	}
}

// withAbove gives these levels and all that this one is at most: what it does
// counts for them.
func (r *Row) withAbove(levels [api.MaxLabels]bool, level int) [api.MaxLabels]bool {
	for d := 0; d < api.MaxLabels; d++ {
		if r.order.Leq(level, d) {
			levels[d] = true
		}
	}
	return levels
}

// FirstView gives the cells that are there for a level, in the order of the row.
func (r *Row) FirstView(level int) []Seen {
	var l []Seen
	for i, c := range r.cells {
		if r.isThere(c, level) {
			l = append(l, Seen{At: i, Char: c.char})
		}
	}
	return l
}

// isThere tells whether a cell is there for a level.
func (r *Row) isThere(c cell, level int) bool {
	// Leq is false of what is no label, so the level is a number of gone.
	return r.order.Leq(c.origin, level) && !c.gone[level]
}
