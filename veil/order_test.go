package veil_test

import (
	"testing"

	"veil/api"
	"veil/veil"
)

// testOrder asks for Leq, Join and Meet of two labels.
func testOrder(t *testing.T, name string, c api.Config, a int, b int, leq bool, join int, meet int) {
	t.Helper()
	y, e := veil.Leq(c, a, b)
	if y != leq || e != api.OK {
		t.Errorf("P4: %s: Leq of %d and %d = %v, %d, want %v", name, a, b, y, e, leq)
	}
	j, e := veil.Join(c, a, b)
	if j != join || e != api.OK {
		t.Errorf("P4: %s: Join of %d and %d = %d, %d, want %d", name, a, b, j, e, join)
	}
	m, e := veil.Meet(c, a, b)
	if m != meet || e != api.OK {
		t.Errorf("P4: %s: Meet of %d and %d = %d, %d, want %d", name, a, b, m, e, meet)
	}
}

// testNoOrder asks for the error that Leq, Join and Meet of two labels answer, with every other result zero.
func testNoOrder(t *testing.T, name string, c api.Config, a int, b int, want api.Errno) {
	t.Helper()
	y, e := veil.Leq(c, a, b)
	if y || e != want {
		t.Errorf("P1, P4: %s: Leq of %d and %d = %v, %d, want the error %d", name, a, b, y, e, want)
	}
	j, e := veil.Join(c, a, b)
	if j != 0 || e != want {
		t.Errorf("P1, P4: %s: Join of %d and %d = %d, %d, want the error %d", name, a, b, j, e, want)
	}
	m, e := veil.Meet(c, a, b)
	if m != 0 || e != want {
		t.Errorf("P1, P4: %s: Meet of %d and %d = %d, %d, want the error %d", name, a, b, m, e, want)
	}
}

func TestDiamond(t *testing.T) {
	leq := [4][4]bool{{true, true, true, true}, {false, true, false, true}, {false, false, true, true}, {false, false, false, true}}
	join := [4][4]int{{0, 1, 2, 3}, {1, 1, 3, 3}, {2, 3, 2, 3}, {3, 3, 3, 3}}
	meet := [4][4]int{{0, 0, 0, 0}, {0, 1, 0, 1}, {0, 0, 2, 2}, {0, 1, 2, 3}}
	for a := range 4 {
		for b := range 4 {
			testOrder(t, "diamond", diamond(), a, b, leq[a][b], join[a][b], meet[a][b])
		}
	}
}

func TestOneLabel(t *testing.T) {
	testOrder(t, "one label", labels(1), 0, 0, true, 0, 0)
}

// TestLongWays: the edges of the chain 4, 2, 0, 5, 3, 1 come in such an order that one look at each is not enough.
func TestLongWays(t *testing.T) {
	chain := labels(6, 3, 1, 5, 3, 0, 5, 2, 0, 4, 2)
	up := [6]int{4, 2, 0, 5, 3, 1}
	for i, a := range up {
		for j, b := range up {
			testOrder(t, "chain", chain, a, b, i <= j, up[max(i, j)], up[min(i, j)])
		}
	}
}

func TestTwoBesideOne(t *testing.T) {
	c := labels(5, 0, 1, 1, 2, 2, 4, 0, 3, 3, 4)
	testOrder(t, "two beside one", c, 1, 3, false, 4, 0)
	testOrder(t, "two beside one", c, 3, 2, false, 4, 0)
	testOrder(t, "two beside one", c, 0, 4, true, 4, 0)
	testOrder(t, "two beside one", c, 2, 1, false, 2, 1)
}

// TestUpsideDown: the least label has the greatest number, so that a join or meet by numbers would be wrong.
func TestUpsideDown(t *testing.T) {
	c := labels(4, 3, 1, 3, 2, 1, 0, 2, 0)
	testOrder(t, "upside down", c, 1, 2, false, 0, 3)
	testOrder(t, "upside down", c, 3, 0, true, 0, 3)
	testOrder(t, "upside down", c, 0, 3, false, 0, 3)
}

func TestNoLabel(t *testing.T) {
	for _, wrong := range []int{-1, 4, 5, 6, least, greatest} {
		testNoOrder(t, "diamond", diamond(), wrong, 0, api.ErrLevel)
		testNoOrder(t, "diamond", diamond(), 3, wrong, api.ErrLevel)
		testNoOrder(t, "diamond", diamond(), wrong, wrong, api.ErrLevel)
	}
}

// TestWrongConfigFirst: the error of Check is named before ErrLevel.
func TestWrongConfigFirst(t *testing.T) {
	for _, k := range []checkCase{
		{"no labels", labels(0), api.ErrLabels},
		{"a circle", labels(2, 0, 1, 1, 0), api.ErrOrder},
		{"no lattice", labels(2), api.ErrLattice},
		{"a wrong rule", withRules(api.Rule{Pattern: "A", Label: 0}), api.ErrRules},
		{"a wrong grant", withGrants(api.Grant{From: 1, To: 2}), api.ErrGrants},
	} {
		testNoOrder(t, k.name, k.c, 0, 0, k.want)
		testNoOrder(t, k.name, k.c, 1, 1, k.want)
		testNoOrder(t, k.name, k.c, -1, greatest, k.want)
	}
}
