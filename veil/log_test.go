package veil_test

import (
	"slices"
	"testing"

	"veil/api"
)

// versions asks for the versions of the levels 0, 1, 2, and so on.
func versions(t *testing.T, d doc, want ...int) {
	t.Helper()
	for level, w := range want {
		if n, e := d.Version(level); n != w || e != api.OK {
			t.Errorf("P14: Version(%d) = %d, %d, want %d", level, n, e, w)
		}
	}
}

func record(by int, cells int, version int) api.Record {
	return api.Record{By: by, Cells: cells, Version: version}
}

func logIs(t *testing.T, d doc, level int, want ...api.Record) {
	t.Helper()
	if l, e := d.Log(level); !slices.Equal(l, want) || e != api.OK {
		t.Errorf("P14: Log(%d) = %v, %d, want %v", level, l, e, want)
	}
}

// TestVersionsCountAbove: what a level does counts for it and those above it, a release for its target and those above that.
func TestVersionsCountAbove(t *testing.T) {
	d := open(t, plain())
	insert(t, d, 0, 0, "abc", api.OK)
	versions(t, d, 1, 1, 1, 1)
	insert(t, d, 1, 0, "A", api.OK)
	versions(t, d, 1, 2, 1, 2)
	remove(t, d, 2, 2, 3, api.OK)
	versions(t, d, 1, 2, 2, 3)
	raise(t, d, 3, 0, 1, 0, api.OK)
	versions(t, d, 1, 2, 2, 4)
	raise(t, d, 0, 0, 1, 3, api.OK)
	versions(t, d, 2, 3, 3, 5)
	release(t, d, 3, 0, 1, 1, api.OK)
	versions(t, d, 2, 4, 3, 6)
	release(t, d, 3, 1, 3, 2, api.OK)
	versions(t, d, 2, 4, 4, 7)
	release(t, d, 1, 2, 3, 0, api.OK)
	versions(t, d, 3, 5, 5, 8)
	remove(t, d, 0, 0, 1, api.OK)
	versions(t, d, 4, 6, 6, 9)
}

// TestVersionsOfOtherNumbers: the order is that of the edges, not of the numbers.
func TestVersionsOfOtherNumbers(t *testing.T) {
	c := labels(3, 2, 0, 0, 1)
	c.Grants = grants(1, 2)
	d := open(t, c)
	insert(t, d, 2, 0, "a", api.OK)
	insert(t, d, 0, 0, "b", api.OK)
	insert(t, d, 1, 0, "c", api.OK)
	versions(t, d, 2, 3, 1)
	release(t, d, 1, 2, 3, 2, api.OK)
	versions(t, d, 3, 4, 2)
	logIs(t, d, 2, record(1, 1, 2))
}

// TestVersionsCountCalls: each call counts once, however many bytes it is about and whether a view changes or not.
func TestVersionsCountCalls(t *testing.T) {
	d := oneText(t, plain(), "abcdefgh")
	versions(t, d, 1, 1, 1, 1)
	for range 3 {
		raise(t, d, 0, 0, 8, 0, api.OK)
	}
	versions(t, d, 4, 4, 4, 4)
	remove(t, d, 3, 0, 8, api.OK)
	remove(t, d, 0, 0, 8, api.OK) // for 3 all is gone already
	versions(t, d, 5, 5, 5, 6)
}

// TestVersionsOfTheRefused: asking and what is refused count for nobody.
func TestVersionsOfTheRefused(t *testing.T) {
	d := oneText(t, plain(), "ab")
	insert(t, d, 0, 3, "a", api.ErrAt)
	insert(t, d, 0, 0, "", api.ErrText)
	remove(t, d, 0, 1, 1, api.ErrAt)
	raise(t, d, 0, 0, 1, 4, api.ErrLevel)
	raise(t, d, 0, 0, 3, 1, api.ErrAt)
	release(t, d, 3, 0, 3, 0, api.ErrAt)
	release(t, d, 0, 0, 1, 0, api.ErrGrant)
	tellAll(d)
	versions(t, d, 1, 1, 1, 1)
	for level := range 4 {
		logIs(t, d, level)
	}
}

func TestLogs(t *testing.T) {
	d := oneText(t, plain(), "abcde")
	insert(t, d, 1, 5, "FG", api.OK)
	release(t, d, 3, 0, 7, 1, api.OK)
	logIs(t, d, 1, record(3, 7, 3))
	release(t, d, 1, 1, 3, 0, api.OK)
	release(t, d, 2, 4, 5, 0, api.OK)
	release(t, d, 3, 0, 5, 0, api.OK)
	release(t, d, 3, 5, 7, 1, api.OK)
	release(t, d, 3, 0, 1, 2, api.OK)
	logIs(t, d, 0, record(1, 2, 2), record(2, 1, 3), record(3, 5, 4))
	logIs(t, d, 1, record(3, 7, 3), record(3, 2, 7))
	logIs(t, d, 2, record(3, 1, 5))
	logIs(t, d, 3)
	versions(t, d, 4, 7, 5, 8)
}

// TestLogCountsTheReleased: what stands between for others, or is gone for the level that releases, is not counted.
func TestLogCountsTheReleased(t *testing.T) {
	d := oneText(t, plain(), "abcd")
	insert(t, d, 2, 2, "ZZ", api.OK)
	remove(t, d, 1, 2, 3, api.OK)
	see(t, d, "abcd", "abd", "abZZcd", "abZZd")
	release(t, d, 1, 0, 3, 0, api.OK)
	logIs(t, d, 0, record(1, 3, 2))
	release(t, d, 2, 0, 2, 0, api.OK)
	logIs(t, d, 0, record(1, 3, 2), record(2, 2, 3))
}

func TestEntriesOfAFullLog(t *testing.T) {
	d := oneText(t, plain(), "abc")
	var want []api.Record
	for i := range api.MaxLog {
		by := 1 + i%3
		release(t, d, by, 0, by, 0, api.OK)
		want = append(want, record(by, by, 2+i))
		logIs(t, d, 0, want...)
	}
	release(t, d, 1, 0, 1, 0, api.ErrLog)
	raise(t, d, 0, 0, 3, 3, api.OK)
	remove(t, d, 0, 0, 1, api.OK)
	release(t, d, 3, 0, 1, 0, api.ErrAt)
	logIs(t, d, 0, want...)
	versions(t, d, 11, 11, 11, 11)
}

func TestLogsAreFresh(t *testing.T) {
	d := oneText(t, plain(), "abc")
	var want []api.Record
	for i := range api.MaxLog {
		l, _ := d.Log(0)
		fill(l, record(9, 9, 9))
		logIs(t, d, 0, want...)
		old, _ := d.Log(0)
		release(t, d, 1, 0, 1, 0, api.OK)
		fill(l, record(9, 9, 9)) // behind the release too
		if !slices.Equal(old, want) {
			t.Errorf("P2: Log(0) gave %v, which is %v behind a Release", want, old)
		}
		want = append(want, record(1, 1, 2+i))
		logIs(t, d, 0, want...)
	}
}
