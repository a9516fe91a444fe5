package row

import (
	"slices"
	"testing"

	"veil/api"
	"veil/order"
)

// diamond: the empty row of levels of which 0 is below 1 and 2, which are below 3.
func diamond(t *testing.T) Row {
	t.Helper()
	o, e := order.New(4, []api.Edge{{Low: 0, High: 1}, {Low: 0, High: 2}, {Low: 1, High: 3}, {Low: 2, High: 3}})
	if e != api.OK {
		t.Fatalf("New = %d", e)
	}
	return New(o)
}

func text(seen []Seen) string {
	var l []byte
	for _, s := range seen {
		l = append(l, s.Char)
	}
	return string(l)
}

func see(t *testing.T, r *Row, want ...string) {
	t.Helper()
	for level, w := range want {
		if v := text(r.FirstView(level)); v != w {
			t.Errorf("the first view of %d is %q, want %q", level, v, w)
		}
	}
}

func TestRow(t *testing.T) {
	r := diamond(t)
	see(t, &r, "", "", "", "")
	r.Insert(0, 0, "ad")
	r.Insert(1, 1, "b")
	r.Insert(2, 2, "c")
	r.Insert(3, 4, "e")
	see(t, &r, "ad", "abd", "acd", "abcde")
	if l := r.FirstView(2); !slices.Equal(l, []Seen{{0, 'a'}, {2, 'c'}, {3, 'd'}}) {
		t.Errorf("the first view of 2 is %v", l)
	}
	r.Delete(2, 0, 2)
	see(t, &r, "ad", "abd", "d", "bde")
	r.Delete(0, 0, 4)
	see(t, &r, "", "b", "", "be")
	r.Insert(0, 5, "f")
	see(t, &r, "f", "bf", "f", "bef")
}

func TestNoNumbers(t *testing.T) {
	const greatest = int(^uint(0) >> 1)
	r := diamond(t)
	r.Insert(0, 0, "ab")
	for _, n := range []int{-greatest - 1, -1, 4, 6, greatest} {
		r.Insert(0, n, "x")
		r.Delete(n, 0, 1)
		if l := r.FirstView(n); l != nil {
			t.Errorf("the first view of %d is %v", n, l)
		}
	}
	see(t, &r, "ab", "ab", "ab", "ab")
	r.Delete(1, -greatest-1, greatest)
	see(t, &r, "ab", "", "ab", "")
	r.Delete(0, 1, 0)
	see(t, &r, "ab", "", "ab", "")
}

// TestFirstViewIsFresh: writing into a first view changes no later one.
func TestFirstViewIsFresh(t *testing.T) {
	r := diamond(t)
	r.Insert(0, 0, "ab")
	l := r.FirstView(0)
	l[0] = Seen{9, 'x'}
	see(t, &r, "ab")
}
