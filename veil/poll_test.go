package veil_test

import (
	"slices"
	"testing"

	"veil/api"
)

func notice(kind int, by int) api.Notice {
	return api.Notice{Kind: kind, By: by}
}

func poll(t *testing.T, d doc, level int, want ...api.Notice) {
	t.Helper()
	if l, e := d.Poll(level); !slices.Equal(l, want) || e != api.OK {
		t.Errorf("P15: Poll(%d) = %v, %d, want %v", level, l, e, want)
	}
}

// TestNotices: of each kind one, for those above but not for the level itself nor for those below or beside.
func TestNotices(t *testing.T) {
	d := oneText(t, plain(), "abc")
	remove(t, d, 1, 0, 1, api.OK)
	raise(t, d, 2, 0, 1, 2, api.OK)
	release(t, d, 1, 0, 1, 0, api.OK)
	poll(t, d, 0, notice(api.Released, 1))
	poll(t, d, 1, notice(api.Inserted, 0))
	poll(t, d, 2, notice(api.Inserted, 0), notice(api.Released, 1))
	poll(t, d, 3, notice(api.Inserted, 0), notice(api.Deleted, 1), notice(api.Raised, 2), notice(api.Released, 1))
	for level := range 4 {
		poll(t, d, level)
	}
}

// TestNoticesOfReleases: of a release to 1 neither 0 nor 2 hears, nor 3, which did it; of one to 0 all others do.
func TestNoticesOfReleases(t *testing.T) {
	d := oneText(t, plain(), "abc")
	tellAll(d)
	release(t, d, 3, 0, 1, 1, api.OK)
	poll(t, d, 0)
	poll(t, d, 1, notice(api.Released, 3))
	poll(t, d, 2)
	poll(t, d, 3)
	release(t, d, 2, 0, 1, 0, api.OK)
	poll(t, d, 0, notice(api.Released, 2))
	poll(t, d, 1, notice(api.Released, 2))
	poll(t, d, 2)
	poll(t, d, 3, notice(api.Released, 2))
}

func TestTooManyNotices(t *testing.T) {
	d := open(t, plain())
	for range api.MaxNotices {
		insert(t, d, 0, 0, "a", api.OK)
	}
	all := slices.Repeat([]api.Notice{notice(api.Inserted, 0)}, api.MaxNotices)
	poll(t, d, 1, all...) // just as many as may wait
	insert(t, d, 0, 0, "a", api.OK)
	poll(t, d, 1, notice(api.Inserted, 0))
	poll(t, d, 2, notice(api.Resync, -1))
	poll(t, d, 2)
	for range 3 * api.MaxNotices { // Resync stays alone
		remove(t, d, 1, 0, 1, api.OK)
		insert(t, d, 1, 0, "b", api.OK)
	}
	poll(t, d, 3, notice(api.Resync, -1))
	poll(t, d, 3)
	poll(t, d, 1) // what a level does itself fills nothing
	remove(t, d, 1, 0, 1, api.OK)
	poll(t, d, 3, notice(api.Deleted, 1))
	poll(t, d, 0)
}

// TestBehindResync: one notice more, or two, behind Resync leave just Resync, and behind a Poll all begins anew.
func TestBehindResync(t *testing.T) {
	for more := range 3*api.MaxNotices + 1 {
		d := open(t, plain())
		for range api.MaxNotices + 1 + more {
			insert(t, d, 0, 0, "a", api.OK)
		}
		poll(t, d, 3, notice(api.Resync, -1))
		var want []api.Notice
		for range api.MaxNotices {
			raise(t, d, 1, 0, 1, 0, api.OK)
			want = append(want, notice(api.Raised, 1))
		}
		poll(t, d, 3, want...)
	}
}

// TestOwnDeedsBetween: what a level does itself takes no room among its notices, and takes none of them away.
func TestOwnDeedsBetween(t *testing.T) {
	d := oneText(t, plain(), "a")
	for range api.MaxNotices - 1 {
		raise(t, d, 3, 0, 1, 3, api.OK)
		insert(t, d, 3, 0, "x", api.OK)
		insert(t, d, 1, 0, "y", api.OK)
	}
	insert(t, d, 3, 0, "x", api.OK)
	poll(t, d, 3, notice(api.Inserted, 0), notice(api.Inserted, 1), notice(api.Inserted, 1), notice(api.Inserted, 1))
	poll(t, d, 2, notice(api.Inserted, 0))
}

// TestNoticesOfTheRefused: what is refused leaves the notices as they were, few or full.
func TestNoticesOfTheRefused(t *testing.T) {
	for n := 1; n <= api.MaxNotices+1; n++ {
		d := oneText(t, plain(), "ab")
		want := []api.Notice{notice(api.Inserted, 0)}
		for range n - 1 {
			raise(t, d, 0, 0, 1, 0, api.OK)
			want = append(want, notice(api.Raised, 0))
		}
		if n > api.MaxNotices {
			want = []api.Notice{notice(api.Resync, -1)}
		}
		insert(t, d, 0, 3, "a", api.ErrAt)
		insert(t, d, 0, 0, "#", api.ErrText)
		remove(t, d, 0, 2, 2, api.ErrAt)
		raise(t, d, 0, 0, 1, -1, api.ErrLevel)
		raise(t, d, 0, -1, 1, 1, api.ErrAt)
		release(t, d, 1, 0, 3, 0, api.ErrAt)
		release(t, d, 0, 0, 1, 1, api.ErrGrant)
		for _, level := range noLevels {
			d.Poll(level)
			insert(t, d, level, 0, "a", api.ErrLevel)
		}
		poll(t, d, 0)
		for level := 1; level < 4; level++ {
			poll(t, d, level, want...)
		}
	}
}

// TestPollIsForOneLevel: it takes no other level's notices, and changes nothing else.
func TestPollIsForOneLevel(t *testing.T) {
	d := oneText(t, plain(), "ab")
	release(t, d, 3, 0, 1, 1, api.OK)
	before := []told{tell(d, 0), tell(d, 1), tell(d, 2), tell(d, 3)}
	poll(t, d, 1, notice(api.Inserted, 0), notice(api.Released, 3))
	poll(t, d, 0)
	poll(t, d, 2, notice(api.Inserted, 0))
	poll(t, d, 3, notice(api.Inserted, 0))
	for level, a := range before {
		if b := tell(d, level); !sameTold(a, b) {
			t.Errorf("P15: Poll changed %v to %v", a, b)
		}
	}
}

func TestNoticesAreFresh(t *testing.T) {
	d := oneText(t, plain(), "ab")
	for range 2 * api.MaxNotices {
		l, _ := d.Poll(3)
		fill(l, notice(9, 9))
		insert(t, d, 0, 0, "a", api.OK)
		fill(l, notice(9, 9)) // behind the Insert too
		first, _ := d.Poll(3)
		raise(t, d, 0, 0, 1, 0, api.OK)
		if !slices.Equal(first, []api.Notice{notice(api.Inserted, 0)}) {
			t.Errorf("P2: Poll(3) gave (Inserted, 0), which is %v behind a Raise", first)
		}
		remove(t, d, 1, 0, 1, api.OK)
		fill(first, notice(9, 9))
		poll(t, d, 3, notice(api.Raised, 0), notice(api.Deleted, 1))
		fill(first, notice(9, 9))
		poll(t, d, 3)
	}
	for range api.MaxNotices + 1 {
		insert(t, d, 0, 0, "a", api.OK)
	}
	l, _ := d.Poll(3)
	fill(l, notice(9, 9))
	for range api.MaxNotices + 1 {
		insert(t, d, 0, 0, "a", api.OK)
	}
	poll(t, d, 3, notice(api.Resync, -1))
}
