package news

import (
	"slices"
	"testing"

	"veil/api"
	"veil/order"
)

// diamond: the news of levels of which 0 is below 1 and 2, which are below 3.
func diamond(t *testing.T) News {
	t.Helper()
	o, e := order.New(4, []api.Edge{{Low: 0, High: 1}, {Low: 0, High: 2}, {Low: 1, High: 3}, {Low: 2, High: 3}})
	if e != api.OK {
		t.Fatalf("New = %d", e)
	}
	return New(o)
}

func versions(t *testing.T, n *News, want ...int) {
	t.Helper()
	for level, w := range want {
		if v := n.Version(level); v != w {
			t.Errorf("Version(%d) = %d, want %d", level, v, w)
		}
	}
}

func poll(t *testing.T, n *News, level int, want ...api.Notice) {
	t.Helper()
	if l := n.Poll(level); !slices.Equal(l, want) {
		t.Errorf("Poll(%d) = %v, want %v", level, l, want)
	}
}

func TestTell(t *testing.T) {
	n := diamond(t)
	versions(t, &n, 0, 0, 0, 0)
	n.Tell(api.Inserted, 0, 0)
	n.Tell(api.Deleted, 1, 1)
	n.Tell(api.Raised, 3, 3)
	n.Tell(api.Released, 3, 2)
	versions(t, &n, 1, 2, 2, 4)
	poll(t, &n, 0)
	poll(t, &n, 1, api.Notice{Kind: api.Inserted, By: 0})
	poll(t, &n, 2, api.Notice{Kind: api.Inserted, By: 0}, api.Notice{Kind: api.Released, By: 3})
	poll(t, &n, 3, api.Notice{Kind: api.Inserted, By: 0}, api.Notice{Kind: api.Deleted, By: 1})
	poll(t, &n, 3)
	versions(t, &n, 1, 2, 2, 4)
}

func TestResync(t *testing.T) {
	n := diamond(t)
	var want []api.Notice
	for i := range 3 * api.MaxNotices {
		n.Tell(api.Raised, 0, 0)
		want = append(want, api.Notice{Kind: api.Raised, By: 0})
		if i >= api.MaxNotices {
			want = []api.Notice{{Kind: api.Resync, By: -1}}
		}
		if !slices.Equal(n.waiting[3], want) {
			t.Fatalf("behind %d notices there wait %v, want %v", i+1, n.waiting[3], want)
		}
	}
	poll(t, &n, 3, api.Notice{Kind: api.Resync, By: -1})
	n.Tell(api.Deleted, 2, 2)
	poll(t, &n, 3, api.Notice{Kind: api.Deleted, By: 2})
}

// TestNoLevels: what is no level hears nothing, and nothing is done there.
func TestNoLevels(t *testing.T) {
	n := diamond(t)
	for _, level := range []int{-1, 4, 5, 6, 1 << 40} {
		n.Tell(api.Inserted, 0, level)
		if v := n.Version(level); v != 0 {
			t.Errorf("Version(%d) = %d", level, v)
		}
		if l := n.Poll(level); l != nil {
			t.Errorf("Poll(%d) = %v", level, l)
		}
	}
	versions(t, &n, 0, 0, 0, 0)
}
