package order

import (
	"testing"

	"veil/api"
)

// possible lists all edges that these labels can have.
func possible(labels int) []api.Edge {
	var all []api.Edge
	for low := range labels {
		for high := range labels {
			if low != high {
				all = append(all, api.Edge{Low: low, High: high})
			}
		}
	}
	return all
}

// pick gives those edges whose bit is set.
func pick(all []api.Edge, bits int) []api.Edge {
	var some []api.Edge
	for i, e := range all {
		if bits>>i&1 == 1 {
			some = append(some, e)
		}
	}
	return some
}

// leads walks up the edges from a, at most as many steps as there are labels.
func leads(edges []api.Edge, a int, b int, steps int) bool {
	if a == b {
		return true
	}
	for _, e := range edges {
		if steps > 0 && e.Low == a && leads(edges, e.High, b, steps-1) {
			return true
		}
	}
	return false
}

// extremes gives the labels that are the join of two (or the meet, if up is false), by the words of the document.
func extremes(labels int, leq [4][4]bool, a int, b int, up bool) []int {
	bounds := func(x int) bool {
		if up {
			return leq[a][x] && leq[b][x]
		}
		return leq[x][a] && leq[x][b]
	}
	var found []int
	for x := range labels {
		is := bounds(x)
		for y := range labels {
			if bounds(y) && (up && !leq[x][y] || !up && !leq[y][x]) {
				is = false
			}
		}
		if is {
			found = append(found, x)
		}
	}
	return found
}

// wanted gives the order of labels and the error of New, by the words of the document.
func wanted(labels int, edges []api.Edge) ([4][4]bool, api.Errno) {
	var leq [4][4]bool
	e := api.OK
	for a := range labels {
		for b := range labels {
			leq[a][b] = leads(edges, a, b, labels)
		}
	}
	for a := range labels {
		for b := range labels {
			noJoin := len(extremes(labels, leq, a, b, true)) == 0
			noMeet := len(extremes(labels, leq, a, b, false)) == 0
			if a != b && leq[a][b] && leq[b][a] {
				return leq, api.ErrOrder
			}
			if noJoin || noMeet {
				e = api.ErrLattice
			}
		}
	}
	return leq, e
}

func testLattice(t *testing.T, o Order, labels int, leq [4][4]bool, edges []api.Edge) {
	for a := range labels {
		for b := range labels {
			join := extremes(labels, leq, a, b, true)
			meet := extremes(labels, leq, a, b, false)
			if o.Leq(a, b) != leq[a][b] || o.Join(a, b) != join[0] || o.Meet(a, b) != meet[0] {
				t.Fatalf("of %d and %d by %v: Leq %v, Join %d, Meet %d, want %v, %v, %v", a, b, edges, o.Leq(a, b), o.Join(a, b), o.Meet(a, b), leq[a][b], join, meet)
			}
		}
	}
}

// TestAllEdges tries each choice of edges of 1 to 4 labels.
func TestAllEdges(t *testing.T) {
	for labels := 1; labels <= 4; labels++ {
		all := possible(labels)
		for bits := range 1 << len(all) {
			edges := pick(all, bits)
			leq, want := wanted(labels, edges)
			o, e := New(labels, edges)
			if e != want {
				t.Fatalf("New(%d, %v) answers %d, want %d", labels, edges, e, want)
			}
			if e == api.OK {
				testLattice(t, o, labels, leq, edges)
			}
		}
	}
}

// namesAll tells whether the edges name each two labels of which the order says that one is below the other.
func namesAll(o Order, labels int, edges []api.Edge) bool {
	pairs := 0
	for a := range labels {
		for b := range labels {
			if a != b && o.Leq(a, b) {
				pairs++
			}
		}
	}
	return pairs == len(edges)
}

// TestHowMany: the number of lattices whose elements are named is known from elsewhere.
func TestHowMany(t *testing.T) {
	for labels, want := range []int{1: 1, 2: 2, 3: 6, 4: 36} {
		found := 0
		all := possible(labels)
		for bits := range 1 << len(all) {
			edges := pick(all, bits)
			o, e := New(labels, edges)
			if e == api.OK && namesAll(o, labels, edges) {
				found++
			}
		}
		if found != want {
			t.Errorf("%d lattices of %d labels, want %d", found, labels, want)
		}
	}
}

func TestNoLabels(t *testing.T) {
	o, e := New(2, []api.Edge{{Low: 1, High: 0}})
	if e != api.OK || !o.Has(0) || !o.Has(1) {
		t.Fatalf("two labels: %v, %d", o, e)
	}
	for _, wrong := range []int{-1 << 63, -1, 2, 5, 6, 1<<63 - 1} {
		if o.Has(wrong) || o.Leq(wrong, wrong) || o.Leq(wrong, 0) || o.Leq(1, wrong) || o.Join(1, wrong) != 0 || o.Meet(wrong, 1) != 0 {
			t.Errorf("%d is taken for a label", wrong)
		}
	}
	var none Order
	if none.Has(0) || none.Leq(0, 0) || none.Join(0, 0) != 0 {
		t.Error("the zero Order has a label")
	}
}

func TestWrongOrderIsZero(t *testing.T) {
	for _, edges := range [][]api.Edge{{{Low: 0, High: 0}}, {{Low: 0, High: 1}, {Low: 1, High: 0}}, nil} {
		o, e := New(2, edges)
		if e == api.OK || o != (Order{}) {
			t.Errorf("New(2, %v) = %v, %d", edges, o, e)
		}
	}
}
