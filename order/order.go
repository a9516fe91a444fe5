// Package order: labels, and the order that edges make of them.
package order

import "veil/api"

// Order: some labels, and which of them are at most which. The zero Order has
// no label.
type Order struct {
	labels int
	atMost [api.MaxLabels][api.MaxLabels]bool
}

// New makes the order of these labels and edges. If they make no lattice, it
// answers ErrLabels, ErrOrder or ErrLattice, the first that applies.
func New(labels int, edges []api.Edge) (Order, api.Errno) {
	if !areLabels(labels, edges) {
		return Order{}, api.ErrLabels
	}
	o := follow(labels, edges)
	if o.hasCircle() {
		return Order{}, api.ErrOrder
	}
	if !o.isLattice() {
		return Order{}, api.ErrLattice
	}
	return o, api.OK
}

// areLabels tells whether the number of labels and the edges keep the bounds.
func areLabels(labels int, edges []api.Edge) bool {
	if labels < 1 || labels > api.MaxLabels || len(edges) > api.MaxEdges {
		return false
	}
	for _, e := range edges {
		if !inRange(labels, e.Low) || !inRange(labels, e.High) || e.Low == e.High {
			return false
		}
	}
	return true
}

func inRange(labels int, a int) bool {
	return a >= 0 && a < labels
}

// follow lays down which labels are at most which. The labels and the edges
// keep the bounds.
func follow(labels int, edges []api.Edge) Order {
	o := Order{labels: labels}
	for a := 0; a < labels; a++ {
		o.atMost[a][a] = true
	}
	for _, e := range edges {
		o.atMost[e.Low][e.High] = true
	}
	// The label between must be the outer loop: then the ways over the labels
	// before it are all known, and one round is enough.
	for between := 0; between < labels; between++ {
		for a := 0; a < labels; a++ {
			for b := 0; b < labels; b++ {
				if o.atMost[a][between] && o.atMost[between][b] {
					o.atMost[a][b] = true
				}
			}
		}
	}
	return o
}

// hasCircle tells whether two different labels are at most one another.
func (o Order) hasCircle() bool {
	for a := 0; a < o.labels; a++ {
		for b := 0; b < a; b++ {
			if o.atMost[a][b] && o.atMost[b][a] {
				return true
			}
		}
	}
	return false
}

// isLattice tells whether each two labels have a join and a meet.
func (o Order) isLattice() bool {
	turned := o.turn()
	return o.hasJoins() && turned.hasJoins()
}

func (o Order) hasJoins() bool {
	for a := 0; a < o.labels; a++ {
		for b := 0; b < a; b++ {
			_, found := o.leastAbove(a, b)
			if !found {
				return false
			}
		}
	}
	return true
}

// turn gives the order upside down: its joins are the meets of this one.
func (o Order) turn() Order {
	turned := Order{labels: o.labels}
	for a := 0; a < o.labels; a++ {
		for b := 0; b < o.labels; b++ {
			turned.atMost[a][b] = o.atMost[b][a]
		}
	}
	return turned
}

// leastAbove finds the join of two labels, if there is one.
func (o Order) leastAbove(a int, b int) (int, bool) {
	for least := 0; least < o.labels; least++ {
		if o.isAbove(a, b, least) && o.isBelowAllAbove(a, b, least) {
			return least, true
		}
	}
	return 0, false
}

func (o Order) isAbove(a int, b int, above int) bool {
	return o.Leq(a, above) && o.Leq(b, above)
}

func (o Order) isBelowAllAbove(a int, b int, least int) bool {
	for above := 0; above < o.labels; above++ {
		if o.isAbove(a, b, above) && !o.Leq(least, above) {
			return false
		}
	}
	return true
}

// Has tells whether this is one of the labels.
func (o Order) Has(a int) bool {
	return inRange(o.labels, a)
}

// Leq tells whether a is at most b. What is no label is at most none.
func (o Order) Leq(a int, b int) bool {
	return o.Has(a) && o.Has(b) && o.atMost[a][b]
}

// Join gives the join of two labels (0, if one of them is none).
func (o Order) Join(a int, b int) int {
	join, _ := o.leastAbove(a, b)
	return join
}

// Meet gives the meet of two labels (0, if one of them is none).
func (o Order) Meet(a int, b int) int {
	turned := o.turn()
	return turned.Join(a, b)
}
