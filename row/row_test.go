package row

import (
	"slices"
	"testing"

	"veil/api"
	"veil/order"
)

// diamond: the empty row of levels of which 0 is below 1 and 2, which are below 3.
func diamond(t *testing.T) Row {
	t.Helper()
	o, e := order.New(4, []api.Edge{{Low: 0, High: 1}, {Low: 0, High: 2}, {Low: 1, High: 3}, {Low: 2, High: 3}})
	if e != api.OK {
		t.Fatalf("New = %d", e)
	}
	return New(o)
}

// text gives the bytes of cells; behind those that are hidden stands -, behind those that are free +.
func text(seen []Seen) string {
	var l []byte
	for _, s := range seen {
		l = append(l, s.Char)
		if s.Hidden {
			l = append(l, '-')
		}
		if s.Free {
			l = append(l, '+')
		}
	}
	return string(l)
}

func see(t *testing.T, r *Row, want ...string) {
	t.Helper()
	for level, w := range want {
		if v := text(r.FirstView(level)); v != w {
			t.Errorf("the first view of %d is %q, want %q", level, v, w)
		}
	}
}

func TestRow(t *testing.T) {
	r := diamond(t)
	see(t, &r, "", "", "", "")
	r.Insert(0, 0, "ad")
	r.Insert(1, 1, "b")
	r.Insert(2, 2, "c")
	r.Insert(3, 4, "e")
	see(t, &r, "ad", "abd", "acd", "abcde")
	if l := r.FirstView(2); !slices.Equal(l, []Seen{{At: 0, Char: 'a'}, {At: 2, Char: 'c'}, {At: 3, Char: 'd'}}) {
		t.Errorf("the first view of 2 is %v", l)
	}
	r.Delete(2, 0, 2)
	see(t, &r, "ad", "abd", "d", "bde")
	r.Delete(0, 0, 4)
	see(t, &r, "", "b", "", "be")
	r.Insert(0, 5, "f")
	see(t, &r, "f", "bf", "f", "bef")
}

func TestRaise(t *testing.T) {
	r := diamond(t)
	r.Insert(0, 0, "ad")
	r.Insert(1, 1, "b")
	r.Insert(2, 2, "c")
	r.Raise(1, 0, 3, 2) // not the c; for 1 and 3 alone
	see(t, &r, "ad", "a-b-d-", "acd", "abcd")
	r.Raise(0, 3, 3, 1)
	see(t, &r, "ad-", "a-b-d-", "acd-", "abcd")
	r.Raise(0, 3, 3, 2) // to the join of 1 and 2
	see(t, &r, "ad-", "a-b-d-", "acd-", "abcd")
	r.Raise(0, 0, 0, 2)
	r.Raise(0, 0, 0, 0) // does not lower it
	see(t, &r, "a-d-", "a-b-d-", "acd-", "abcd")
	r.Raise(2, 2, 2, 2)
	see(t, &r, "a-d-", "a-b-d-", "acd-", "abcd")
	r.Raise(2, 2, 2, 1)
	see(t, &r, "a-d-", "a-b-d-", "ac-d-", "abcd")
}

func TestRelease(t *testing.T) {
	r := diamond(t)
	r.Insert(0, 0, "ac")
	r.Insert(1, 1, "b")
	r.Raise(0, 0, 2, 3)
	r.Raise(1, 1, 1, 3)
	see(t, &r, "a-c-", "a-b-c-", "a-c-", "abc")
	r.Release(3, 0, 1, 1)
	see(t, &r, "a-c-", "a+b+c-", "a-c-", "a+b+c")
	r.Raise(3, 0, 0, 0) // not free for 3 any more
	see(t, &r, "a-c-", "a+b+c-", "a-c-", "ab+c")
	r.Raise(1, 1, 1, 2) // the join with its origin, not with what it was raised to
	see(t, &r, "a-c-", "a+b-c-", "a-c-", "abc")
	r.Release(3, 0, 2, 0) // the b too, though its origin is not at most 0
	see(t, &r, "a+c+", "a+b+c+", "a+c+", "a+b+c+")
}

// TestReleaseMeansTheSeen: a cell between those that are released, but that is not there for the level, stays as it is.
func TestReleaseMeansTheSeen(t *testing.T) {
	r := diamond(t)
	r.Insert(0, 0, "abc")
	r.Raise(0, 0, 2, 3)
	r.Delete(3, 1, 1)
	r.Release(3, 0, 2, 1)
	see(t, &r, "a-b-c-", "a+b-c+", "a-b-c-", "a+c+")
}

func TestStemFrom(t *testing.T) {
	r := diamond(t)
	r.Insert(0, 0, "ad")
	r.Insert(1, 1, "b")
	r.Insert(2, 2, "c")
	for _, k := range []struct {
		level, first, last, target int
		want                       bool
	}{
		{3, 0, 0, 0, true},
		{3, 0, 3, 0, false},
		{3, 0, 1, 0, false},
		{3, 0, 1, 1, true},
		{3, 0, 1, 2, false},
		{3, 1, 2, 1, false},
		{3, 2, 3, 2, true},
		{3, 0, 3, 3, true},
		{1, 0, 3, 1, true}, // the c is not there for 1
		{3, 0, 0, 4, false},
		{3, 0, 0, -1, false},
	} {
		if yes := r.StemFrom(k.level, k.first, k.last, k.target); yes != k.want {
			t.Errorf("P13: StemFrom(%d, %d, %d, %d) = %v", k.level, k.first, k.last, k.target, yes)
		}
	}
}

func TestNoNumbers(t *testing.T) {
	const greatest = int(^uint(0) >> 1)
	r := diamond(t)
	r.Insert(0, 0, "ab")
	for _, n := range []int{-greatest - 1, -1, 4, 6, greatest} {
		r.Insert(0, n, "x")
		r.Delete(n, 0, 1)
		r.Raise(n, 0, 1, 3)
		r.Release(n, 0, 1, 0)
		r.Release(0, 0, 1, n)
		if l := r.FirstView(n); l != nil {
			t.Errorf("the first view of %d is %v", n, l)
		}
	}
	see(t, &r, "ab", "ab", "ab", "ab")
	r.Delete(1, -greatest-1, greatest)
	see(t, &r, "ab", "", "ab", "")
	r.Delete(0, 1, 0)
	see(t, &r, "ab", "", "ab", "")
}

// TestFirstViewIsFresh: writing into a first view changes no later one.
func TestFirstViewIsFresh(t *testing.T) {
	r := diamond(t)
	r.Insert(0, 0, "ab")
	l := r.FirstView(0)
	l[0] = Seen{9, 'x', true, true}
	see(t, &r, "ab")
}
