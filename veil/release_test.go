package veil_test

import (
	"testing"

	"veil/api"
)

func release(t *testing.T, d doc, level int, from int, to int, target int, want api.Errno) {
	t.Helper()
	if e := d.Release(level, from, to, target); e != want {
		t.Errorf("P13: Release(%d, %d, %d, %d) = %d, want %d", level, from, to, target, e, want)
	}
}

func TestReleaseCountsAboveTheTarget(t *testing.T) {
	d := oneText(t, plain(), "abc")
	raise(t, d, 0, 0, 3, 3, api.OK)
	see(t, d, "#", "#", "#", "abc")
	release(t, d, 3, 0, 1, 1, api.OK)
	see(t, d, "#", "a#", "#", "abc")
	release(t, d, 3, 1, 2, 2, api.OK)
	see(t, d, "#", "a#", "#b#", "abc")
	release(t, d, 1, 0, 1, 0, api.OK) // what was released to 1 it may release on
	see(t, d, "a#", "a#", "ab#", "abc")
	release(t, d, 3, 0, 3, 0, api.OK)
	see(t, d, "abc", "abc", "abc", "abc")
}

// TestReleaseIsNotForThoseBeside: a release to 1 does not count for 2.
func TestReleaseIsNotForThoseBeside(t *testing.T) {
	d := oneText(t, plain(), "ab")
	raise(t, d, 1, 0, 1, 2, api.OK)
	raise(t, d, 2, 1, 2, 1, api.OK)
	see(t, d, "ab", "#b", "a#", "ab")
	release(t, d, 3, 0, 2, 1, api.OK)
	see(t, d, "ab", "ab", "a#", "ab")
	raise(t, d, 0, 1, 2, 1, api.OK)
	see(t, d, "a#", "ab", "a#", "ab")
	release(t, d, 1, 0, 2, 0, api.OK)
	see(t, d, "ab", "ab", "ab", "ab")
}

// TestReleaseToTheOrigin: the label is the origin again, not less, and what it was raised to before is forgotten.
func TestReleaseToTheOrigin(t *testing.T) {
	d := oneText(t, plain(), "ab")
	insert(t, d, 1, 2, "C", api.OK)
	raise(t, d, 1, 2, 3, 2, api.OK)
	see(t, d, "ab", "ab#", "ab", "abC")
	release(t, d, 3, 2, 3, 1, api.OK)
	see(t, d, "ab", "abC", "ab", "abC")
	raise(t, d, 1, 2, 3, 1, api.OK) // the join of 1 and 1, not of 3 and 1
	see(t, d, "ab", "abC", "ab", "abC")
	raise(t, d, 1, 2, 3, 2, api.OK)
	see(t, d, "ab", "ab#", "ab", "abC")
}

func TestRaiseBehindRelease(t *testing.T) {
	d := oneText(t, plain(), "ab")
	raise(t, d, 0, 0, 1, 3, api.OK)
	release(t, d, 3, 0, 1, 0, api.OK)
	see(t, d, "ab", "ab", "ab", "ab")
	raise(t, d, 2, 0, 1, 3, api.OK)
	see(t, d, "ab", "ab", "#b", "ab")
	raise(t, d, 0, 0, 1, 1, api.OK)
	see(t, d, "#b", "ab", "#b", "ab")
}

// TestReleaseMeansTheSeen: what is not there for the level that releases stays hidden.
func TestReleaseMeansTheSeen(t *testing.T) {
	d := oneText(t, plain(), "abc")
	raise(t, d, 0, 0, 3, 3, api.OK)
	remove(t, d, 3, 1, 2, api.OK)
	release(t, d, 3, 0, 2, 1, api.OK)
	see(t, d, "#", "a#c", "#", "ac")
	insert(t, d, 3, 1, "X", api.OK)
	release(t, d, 1, 0, 1, 0, api.OK)
	release(t, d, 1, 2, 3, 0, api.OK)
	see(t, d, "a#c", "a#c", "a#c", "aXc")
	d = oneText(t, plain(), "ab")
	insert(t, d, 2, 1, "Z", api.OK) // of an origin that is not at most 0, but not there for 1
	raise(t, d, 0, 0, 2, 1, api.OK)
	see(t, d, "#", "ab", "#Z#", "aZb")
	release(t, d, 1, 0, 2, 0, api.OK)
	see(t, d, "ab", "ab", "aZb", "aZb")
}

// TestReleaseOfTheDeleted: a release does not bring back what was deleted.
func TestReleaseOfTheDeleted(t *testing.T) {
	d := oneText(t, plain(), "abc")
	remove(t, d, 2, 0, 1, api.OK)
	release(t, d, 1, 0, 3, 0, api.OK)
	see(t, d, "abc", "abc", "bc", "bc")
	remove(t, d, 0, 2, 3, api.OK)
	see(t, d, "ab", "ab", "b", "b")
}

func TestFreeIsNotStruck(t *testing.T) {
	c := diamond()
	c.Grants = grants(3, 1, 3, 0)
	d := oneText(t, c, "key")
	release(t, d, 3, 1, 2, 1, api.OK)
	see(t, d, "#", "#e#", "#", "key")
	release(t, d, 3, 0, 1, 0, api.OK)
	see(t, d, "k#", "ke#", "k#", "key")
	raise(t, d, 1, 1, 2, 0, api.OK) // no label hides it, but it is not free any more
	see(t, d, "k#", "k#", "k#", "key")
	release(t, d, 3, 0, 3, 0, api.OK)
	see(t, d, "key", "key", "key", "key")
	raise(t, d, 3, 0, 3, 3, api.OK) // counts for 3 alone
	see(t, d, "key", "key", "key", "key")
	insert(t, d, 0, 3, " kay", api.OK) // what was not released is struck
	see(t, d, "key #", "key #", "key #", "key kay")
}

// TestFreeCellsMakeWords: a free cell is a cell of its word for the rules.
func TestFreeCellsMakeWords(t *testing.T) {
	d := oneText(t, diamond(), "ke")
	release(t, d, 3, 0, 2, 1, api.OK)
	insert(t, d, 0, 2, "y", api.OK)
	see(t, d, "#", "ke#", "#", "key")
	insert(t, d, 1, 1, "x", api.OK)
	see(t, d, "#", "kxey", "#", "kxey")
	spansAre(t, d, 1, span(api.Word, 0, 4))
	remove(t, d, 1, 1, 2, api.OK)
	spansAre(t, d, 1, span(api.Word, 0, 2), span(api.Masked, 2, 3))
	find(t, d, 1, "k?", span(api.Word, 0, 2))
}

func TestGrants(t *testing.T) {
	c := withGrants(grants(3, 1, 2, 0)...)
	for level := range 4 {
		for target := range 4 {
			d := oneText(t, c, "a")
			want := api.ErrGrant
			if level == 3 && target == 1 || level == 2 && target == 0 {
				want = api.OK
			}
			release(t, d, level, 0, 1, target, want)
		}
	}
	d := oneText(t, withGrants(), "a")
	release(t, d, 3, 0, 1, 0, api.ErrGrant)
}

func TestMasksAreNotReleased(t *testing.T) {
	d := oneText(t, plain(), "abcde")
	raise(t, d, 0, 1, 2, 2, api.OK)
	raise(t, d, 0, 3, 4, 3, api.OK)
	see(t, d, "a#c#e", "a#c#e", "abc#e", "abcde")
	for _, k := range [][2]int{{1, 2}, {0, 2}, {1, 3}, {2, 4}, {3, 5}, {0, 5}} {
		release(t, d, 1, k[0], k[1], 0, api.ErrMask)
	}
	release(t, d, 2, 2, 4, 0, api.ErrMask)
	see(t, d, "a#c#e", "a#c#e", "abc#e", "abcde")
	release(t, d, 1, 2, 3, 0, api.OK)
	release(t, d, 2, 0, 3, 0, api.OK)
	see(t, d, "abc#e", "abc#e", "abc#e", "abcde")
	c := diamond()
	c.Grants = grants(2, 0)
	struck := oneText(t, c, "a key.")
	release(t, struck, 2, 2, 3, 0, api.ErrMask)
	release(t, struck, 2, 0, 4, 0, api.ErrMask)
	release(t, struck, 2, 3, 4, 0, api.OK)
	see(t, struck, "a #.", "a #.", "a #.", "a key.")
}

func TestOrigins(t *testing.T) {
	d := oneText(t, plain(), "a")
	insert(t, d, 1, 1, "b", api.OK)
	insert(t, d, 2, 1, "c", api.OK)
	insert(t, d, 3, 3, "d", api.OK)
	see(t, d, "a", "ab", "ac", "acbd")
	for _, k := range []struct {
		from, to, target int
		want             api.Errno
	}{
		{0, 1, 0, api.OK}, {0, 1, 1, api.OK}, {0, 1, 2, api.OK},
		{1, 2, 0, api.ErrOrigin}, {1, 2, 1, api.ErrOrigin}, {1, 2, 2, api.OK},
		{2, 3, 0, api.ErrOrigin}, {2, 3, 1, api.OK}, {2, 3, 2, api.ErrOrigin},
		{3, 4, 0, api.ErrOrigin}, {3, 4, 1, api.ErrOrigin}, {3, 4, 2, api.ErrOrigin},
		{0, 2, 2, api.OK}, {0, 3, 2, api.ErrOrigin}, {0, 3, 1, api.ErrOrigin}, {0, 4, 1, api.ErrOrigin},
	} {
		release(t, d, 3, k.from, k.to, k.target, k.want)
	}
	see(t, d, "a", "ab", "ac", "acbd")
}

func TestFullLog(t *testing.T) {
	d := oneText(t, plain(), "ab")
	raise(t, d, 0, 0, 1, 3, api.OK)
	for range 2 * api.MaxLog { // what is refused makes no entry
		release(t, d, 1, 0, 1, 0, api.ErrMask)
		release(t, d, 1, 0, 3, 0, api.ErrAt)
		release(t, d, 0, 0, 1, 0, api.ErrGrant)
	}
	for i := range api.MaxLog {
		release(t, d, 1+i%2, 1, 2, 0, api.OK)
	}
	before := tellAll(d)
	release(t, d, 1, 1, 2, 0, api.ErrLog)
	release(t, d, 2, 1, 2, 0, api.ErrLog)
	release(t, d, 3, 0, 2, 0, api.ErrLog)
	release(t, d, 1, 0, 1, 0, api.ErrMask)
	unchanged(t, d, before)
	for range api.MaxLog { // each level has a log of its own
		release(t, d, 3, 0, 1, 1, api.OK)
		release(t, d, 3, 0, 1, 2, api.OK)
	}
	see(t, d, "#b", "ab", "ab", "ab")
	release(t, d, 3, 0, 1, 1, api.ErrLog)
	release(t, d, 3, 0, 1, 2, api.ErrLog)
	release(t, d, 1, 0, 1, 0, api.ErrLog)
}

// TestReleaseFirstError mends one fault after the other, in the order of the errors.
func TestReleaseFirstError(t *testing.T) {
	c := plain()
	c.Grants = grants(2, 0, 3, 0)
	d := oneText(t, c, "ab")
	for range api.MaxLog {
		release(t, d, 3, 0, 1, 0, api.OK)
	}
	raise(t, d, 0, 0, 1, 3, api.OK)
	insert(t, d, 2, 2, "z", api.OK)
	see(t, d, "#b", "#b", "#bz", "abz")
	before := tellAll(d)
	release(t, d, 4, 0, 9, 0, api.ErrLevel)
	release(t, d, 2, 0, 9, 4, api.ErrLevel)
	release(t, d, 2, 0, 9, 1, api.ErrGrant)
	release(t, d, 1, 0, 9, 0, api.ErrGrant)
	release(t, d, 2, 0, 9, 0, api.ErrAt)
	release(t, d, 2, 0, 3, 0, api.ErrMask)
	release(t, d, 2, 1, 3, 0, api.ErrOrigin)
	release(t, d, 3, 0, 3, 0, api.ErrOrigin)
	release(t, d, 2, 1, 2, 0, api.ErrLog)
	unchanged(t, d, before)
}

func TestReleaseRefused(t *testing.T) {
	c := diamond()
	c.Grants = grants(3, 1, 3, 0, 2, 0)
	d := oneText(t, c, "a key")
	see(t, d, "a #", "a #", "a #", "a key")
	before := tellAll(d)
	for _, wrong := range noLevels {
		release(t, d, wrong, 0, 1, 1, api.ErrLevel)
		release(t, d, 3, 0, 1, wrong, api.ErrLevel)
		release(t, d, wrong, 0, 9, wrong, api.ErrLevel)
	}
	for _, k := range [][2]int{{0, 0}, {5, 5}, {1, 0}, {-1, 0}, {-1, 1}, {0, 6}, {4, 6}, {5, 6}, {least, 1}, {0, greatest}, {least, greatest}, {greatest, least}} {
		release(t, d, 3, k[0], k[1], 1, api.ErrAt)
	}
	release(t, d, 2, 0, 4, 0, api.ErrAt)
	empty := open(t, c)
	release(t, empty, 3, 0, 0, 1, api.ErrAt)
	release(t, empty, 3, 0, 1, 1, api.ErrAt)
	unchanged(t, d, before)
	release(t, d, 3, 0, 5, 1, api.OK)
	see(t, d, "a #", "a key", "a #", "a key")
}
