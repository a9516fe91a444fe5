package veil_test

import (
	"slices"
	"strings"
	"testing"

	"veil/api"
	"veil/veil"
)

// told: all that a document tells a level, but for its notices.
type told struct {
	view          string
	spans, found  []api.Span
	left, version int
	log           []api.Record
}

func tell(d doc, level int) told {
	var a told
	a.view, _ = d.View(level)
	a.spans, _ = d.Spans(level)
	a.found, _ = d.Find(level, "*")
	a.left, _ = d.Left(level)
	a.version, _ = d.Version(level)
	a.log, _ = d.Log(level)
	return a
}

// tellAll takes the notices of all levels too: then none wait.
func tellAll(d doc) []told {
	var l []told
	for level := range api.MaxLabels {
		l = append(l, tell(d, level))
		d.Poll(level)
	}
	return l
}

func sameTold(a told, b told) bool {
	return a.view == b.view && a.left == b.left && a.version == b.version &&
		slices.Equal(a.spans, b.spans) && slices.Equal(a.found, b.found) && slices.Equal(a.log, b.log)
}

// unchanged asks that a document tells what it told, and that no notice waits.
func unchanged(t *testing.T, d doc, before []told) {
	t.Helper()
	for level := range api.MaxLabels {
		if l, _ := d.Poll(level); len(l) > 0 {
			t.Errorf("P1, P15: nothing was done, but for %d there waited %v", level, l)
		}
	}
	after := tellAll(d)
	if !slices.EqualFunc(before, after, sameTold) {
		t.Errorf("P1, P2: the document told %v, and now %v", before, after)
	}
}

// written: what 0, 1 and 2 see is `ab #.`, what 3 sees `Xab key.`; level 1 may insert 3 bytes more.
func written(t *testing.T) doc {
	t.Helper()
	c := withRules(api.Rule{Pattern: "k*", Label: 3})
	d := oneText(t, c, "ab key.")
	insert(t, d, 3, 0, "X", api.OK)
	for range 4 {
		insert(t, d, 1, 0, strings.Repeat("q", 40), api.OK)
	}
	insert(t, d, 1, 0, strings.Repeat("q", 37), api.OK)
	remove(t, d, 1, 0, 197, api.OK)
	return d
}

var noLevels = []int{least, -1, 4, 5, 6, 7, 1 << 32, greatest}

var noTexts = []string{"", "#", "a#", "#a", "a\n", "\t", "\x00", "\x1f", "\x7f", "\x80", "\xff", "é", strings.Repeat("a", api.MaxInsert+1), strings.Repeat("x", 9000000), strings.Repeat("#", 9000000)}

func TestInsertRefused(t *testing.T) {
	d := written(t)
	before := tellAll(d)
	for _, level := range noLevels {
		insert(t, d, level, 0, "a", api.ErrLevel)
		insert(t, d, level, -1, "", api.ErrLevel)
		insert(t, d, level, 9, strings.Repeat("a", 41), api.ErrLevel)
	}
	for _, at := range []int{least, -1, 6, 7, 1 << 32, greatest} {
		insert(t, d, 0, at, "a", api.ErrAt)
		insert(t, d, 1, at, "abcd", api.ErrAt)
		insert(t, d, 2, at, "#", api.ErrAt)
	}
	insert(t, d, 3, 9, "a", api.ErrAt)
	for _, text := range noTexts {
		insert(t, d, 0, 0, text, api.ErrText)
		insert(t, d, 0, 5, text, api.ErrText)
		insert(t, d, 1, 5, text, api.ErrText)
	}
	insert(t, d, 1, 0, "abcd", api.ErrQuota)
	insert(t, d, 1, 5, strings.Repeat("a", 40), api.ErrQuota)
	insert(t, d, 1, 0, strings.Repeat("a", 41), api.ErrText)
	unchanged(t, d, before)
	insert(t, d, 1, 5, "abc", api.OK)
	insert(t, d, 3, 11, "!", api.OK)
	see(t, d, "ab #.", "ab #.abc", "ab #.", "Xab key.abc!")
}

// TestInsertedBytes: which of all bytes can be inserted.
func TestInsertedBytes(t *testing.T) {
	for b := range 256 {
		want := api.ErrText
		if b >= 32 && b <= 126 && b != '#' {
			want = api.OK
		}
		for _, text := range []string{string([]byte{byte(b)}), string([]byte{'a', byte(b)}), string([]byte{byte(b), 'a'})} {
			d := open(t, labels(1))
			insert(t, d, 0, 0, text, want)
			if want == api.OK {
				see(t, d, text)
			} else {
				see(t, d, "")
			}
		}
	}
}

// noPieces: from and to that are none in a view of 5 places.
var noPieces = [][2]int{{0, 0}, {5, 5}, {1, 0}, {3, 1}, {-1, 0}, {-1, 1}, {0, 6}, {4, 6}, {5, 6}, {6, 7}, {least, 1}, {0, greatest}, {least, greatest}, {greatest, least}, {least, least}, {greatest, greatest}, {1 << 32, 1<<32 + 1}}

func TestDeleteRefused(t *testing.T) {
	d := written(t)
	before := tellAll(d)
	for _, level := range noLevels {
		remove(t, d, level, 0, 1, api.ErrLevel)
		remove(t, d, level, -1, 0, api.ErrLevel)
	}
	for _, k := range noPieces {
		remove(t, d, 0, k[0], k[1], api.ErrAt)
	}
	remove(t, d, 3, 0, 9, api.ErrAt)
	empty := open(t, diamond())
	remove(t, empty, 0, 0, 0, api.ErrAt)
	remove(t, empty, 0, 0, 1, api.ErrAt)
	unchanged(t, d, before)
	remove(t, d, 0, 4, 5, api.OK)
	remove(t, d, 3, 0, 7, api.OK)
	see(t, d, "ab #", "ab #", "ab #", "")
}

func TestAskingRefused(t *testing.T) {
	d := written(t)
	before := tellAll(d)
	for _, level := range noLevels {
		v, e := d.View(level)
		n, f := d.Left(level)
		if v != "" || n != 0 || e != api.ErrLevel || f != api.ErrLevel {
			t.Errorf("P9, P11: View(%d) = %q, %d; Left = %d, %d", level, v, e, n, f)
		}
		if l, e := d.Spans(level); l != nil || e != api.ErrLevel {
			t.Errorf("P10: Spans(%d) = %v, %d", level, l, e)
		}
		if l, e := d.Log(level); l != nil || e != api.ErrLevel {
			t.Errorf("P14: Log(%d) = %v, %d", level, l, e)
		}
		if n, e := d.Version(level); n != 0 || e != api.ErrLevel {
			t.Errorf("P14: Version(%d) = %d, %d", level, n, e)
		}
		if l, e := d.Poll(level); l != nil || e != api.ErrLevel {
			t.Errorf("P15: Poll(%d) = %v, %d", level, l, e)
		}
		for _, pattern := range []string{"*", "", "A"} {
			if l, e := d.Find(level, pattern); l != nil || e != api.ErrLevel {
				t.Errorf("P10: Find(%d, %q) = %v, %d, want ErrLevel", level, pattern, l, e)
			}
		}
	}
	for _, pattern := range []string{"", "A", "X", "a b", "#", ".", "é", "\xff", strings.Repeat("*", api.MaxWord+1), strings.Repeat("a", 100000)} {
		if l, e := d.Find(0, pattern); l != nil || e != api.ErrText {
			t.Errorf("P10: Find(0, %.40q) = %v, %d, want ErrText", pattern, l, e)
		}
	}
	unchanged(t, d, before)
}

func TestDocumentsKeepNothing(t *testing.T) {
	b := backingOf(diamond())
	d := open(t, b.config(4))
	if !b.equals(backingOf(diamond())) {
		t.Errorf("P2: Open wrote into what was handed in")
	}
	b.spoil()
	insert(t, d, 0, 0, "ab key spoilt", api.OK)
	insert(t, d, 1, 2, "X", api.OK)
	see(t, d, "ab # spoilt", "abX # spoilt", "ab # spoilt", "abX key spoilt")
	release(t, d, 3, 4, 7, 1, api.OK)
	release(t, d, 3, 4, 7, 0, api.ErrGrant)
	see(t, d, "ab # spoilt", "abX key spoilt", "ab # spoilt", "abX key spoilt")
	if _, e := veil.Open(b.config(4)); e == api.OK {
		t.Errorf("P6: the spoilt configuration was opened")
	}
}

// fill writes into a list and into its spare room.
func fill[entry any](l []entry, mark entry) {
	l = l[:cap(l)]
	for i := range l {
		l[i] = mark
	}
}

func TestListsAreFresh(t *testing.T) {
	d := written(t)
	before := tellAll(d)
	for level := range 4 {
		old, _ := d.Spans(level)
		l, _ := d.Spans(level)
		fill(l, span(9, 9, 9))
		f, _ := d.Find(level, "*")
		fill(f, span(9, 9, 9))
		if !slices.Equal(old, before[level].spans) {
			t.Errorf("P2: Spans(%d) gave one list twice", level)
		}
		unchanged(t, d, before)
	}
}

func TestDocumentsStandAlone(t *testing.T) {
	c := diamond()
	first := open(t, c)
	second := open(t, c)
	insert(t, first, 0, 0, "first", api.OK)
	see(t, second, "", "", "", "")
	left(t, second, 0, api.MaxCells)
	insert(t, second, 0, 0, "second", api.OK)
	remove(t, second, 0, 0, 3, api.OK)
	see(t, first, "first", "first", "first", "first")
	see(t, second, "ond", "ond", "ond", "ond")
	for range api.MaxLog {
		release(t, first, 3, 0, 1, 1, api.OK)
	}
	raise(t, first, 0, 0, 5, 1, api.OK)
	see(t, second, "ond", "ond", "ond", "ond")
	versions(t, second, 2, 2, 2, 2)
	logIs(t, second, 1)
	poll(t, second, 1, notice(api.Inserted, 0), notice(api.Deleted, 0))
	release(t, second, 3, 0, 1, 1, api.OK)
	logIs(t, second, 1, record(3, 1, 3))
	poll(t, first, 1, notice(api.Resync, -1))
	poll(t, second, 1, notice(api.Released, 3))
}
