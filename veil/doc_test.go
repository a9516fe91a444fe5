package veil_test

import (
	"slices"
	"strings"
	"testing"

	"veil/api"
	"veil/veil"
)

type doc = *veil.Doc

func open(t *testing.T, c api.Config) doc {
	t.Helper()
	d, e := veil.Open(c)
	if d == nil || e != api.OK {
		t.Fatalf("P6: Open = %v, %d, want a document", d, e)
	}
	return d
}

func insert(t *testing.T, d doc, level int, at int, text string, want api.Errno) {
	t.Helper()
	if e := d.Insert(level, at, text); e != want {
		t.Errorf("P7: Insert(%d, %d, %.60q) = %d, want %d", level, at, text, e, want)
	}
}

func remove(t *testing.T, d doc, level int, from int, to int, want api.Errno) {
	t.Helper()
	if e := d.Delete(level, from, to); e != want {
		t.Errorf("P8: Delete(%d, %d, %d) = %d, want %d", level, from, to, e, want)
	}
}

// see asks for the views of the levels 0, 1, 2, and so on.
func see(t *testing.T, d doc, want ...string) {
	t.Helper()
	for level, w := range want {
		if v, e := d.View(level); v != w || e != api.OK {
			t.Errorf("P9: View(%d) = %q, %d, want %q", level, v, e, w)
		}
	}
}

func left(t *testing.T, d doc, level int, want int) {
	t.Helper()
	if n, e := d.Left(level); n != want || e != api.OK {
		t.Errorf("P11: Left(%d) = %d, %d, want %d", level, n, e, want)
	}
}

func span(kind int, from int, to int) api.Span {
	return api.Span{Kind: kind, From: from, To: to}
}

func spansAre(t *testing.T, d doc, level int, want ...api.Span) {
	t.Helper()
	if l, e := d.Spans(level); !slices.Equal(l, want) || e != api.OK {
		t.Errorf("P10: Spans(%d) = %v, %d, want %v", level, l, e, want)
	}
}

func find(t *testing.T, d doc, level int, pattern string, want ...api.Span) {
	t.Helper()
	if l, e := d.Find(level, pattern); !slices.Equal(l, want) || e != api.OK {
		t.Errorf("P10: Find(%d, %q) = %v, %d, want %v", level, pattern, l, e, want)
	}
}

// oneText opens a document in which level 0 has inserted one text.
func oneText(t *testing.T, c api.Config, text string) doc {
	t.Helper()
	d := open(t, c)
	insert(t, d, 0, 0, text, api.OK)
	return d
}

func TestOpen(t *testing.T) {
	d := open(t, diamond())
	see(t, d, "", "", "", "")
	for level := range 4 {
		left(t, d, level, api.MaxCells)
		spansAre(t, d, level)
		find(t, d, level, "*")
		logIs(t, d, level)
		poll(t, d, level)
	}
	versions(t, d, 0, 0, 0, 0)
	for _, k := range []checkCase{
		{"no label", labels(0), api.ErrLabels},
		{"a circle", labels(2, 0, 1, 1, 0), api.ErrOrder},
		{"no lattice", labels(2), api.ErrLattice},
		{"a rule too many", manyRules(api.MaxRules + 1), api.ErrRules},
		{"a grant too many", manyGrants(api.MaxGrants + 1), api.ErrGrants},
	} {
		if d, e := veil.Open(k.c); d != nil || e != k.want {
			t.Errorf("P6: %s: Open = %v, %d, want nil, %d", k.name, d, e, k.want)
		}
	}
}

func TestExample(t *testing.T) {
	d := open(t, diamond())
	insert(t, d, 0, 0, "ab cd", api.OK)
	see(t, d, "ab cd", "ab cd", "ab cd", "ab cd")
	insert(t, d, 1, 2, "XY", api.OK)
	see(t, d, "ab cd", "abXY cd", "ab cd", "abXY cd")
	insert(t, d, 2, 2, "7", api.OK)
	see(t, d, "ab cd", "abXY cd", "ab7 cd", "ab7XY cd")
	raise(t, d, 0, 0, 1, 2, api.OK)
	see(t, d, "#b cd", "#bXY cd", "ab7 cd", "ab7XY cd")
	raise(t, d, 3, 1, 2, 3, api.OK)
	see(t, d, "#b cd", "#bXY cd", "ab7 cd", "ab7XY cd")
	remove(t, d, 1, 0, 2, api.OK)
	see(t, d, "#b cd", "XY cd", "ab7 cd", "7XY cd")
	insert(t, d, 0, 5, " key", api.OK)
	see(t, d, "#b cd #", "XY cd #", "ab7 cd #", "7XY cd key")
	release(t, d, 3, 7, 10, 1, api.OK)
	see(t, d, "#b cd #", "XY cd key", "ab7 cd #", "7XY cd key")
	versions(t, d, 3, 6, 4, 8)
	logIs(t, d, 1, record(3, 3, 6))
	poll(t, d, 1, notice(api.Inserted, 0), notice(api.Raised, 0), notice(api.Inserted, 0), notice(api.Released, 3))
	spansAre(t, d, 1, span(api.Sign, 0, 1), span(api.Sign, 1, 2), span(api.Word, 3, 5), span(api.Word, 6, 9))
	find(t, d, 1, "?e*", span(api.Word, 6, 9))
	left(t, d, 0, 191)
	left(t, d, 1, 198)
	release(t, d, 3, 0, 1, 1, api.ErrOrigin)
	release(t, d, 3, 0, 1, 2, api.ErrGrant)
	raise(t, d, 0, 0, 1, 4, api.ErrLevel)
	remove(t, d, 0, 2, 2, api.ErrAt)
	insert(t, d, 0, 0, "a#", api.ErrText)
	poll(t, d, 3, notice(api.Resync, -1))
}

func TestInsertAtTheBeginning(t *testing.T) {
	d := open(t, diamond())
	insert(t, d, 3, 0, "D", api.OK)
	insert(t, d, 1, 0, "B", api.OK)
	insert(t, d, 2, 0, "C", api.OK)
	insert(t, d, 0, 0, "A", api.OK)
	see(t, d, "A", "AB", "AC", "ACBD")
}

func TestInsertDirectlyBehind(t *testing.T) {
	d := oneText(t, diamond(), "ab")
	insert(t, d, 1, 1, "X", api.OK)
	insert(t, d, 0, 1, "c", api.OK) // before the X, of which 0 knows nothing
	see(t, d, "acb", "acXb")
	insert(t, d, 2, 1, "Z", api.OK)
	see(t, d, "acb", "acXb", "aZcb", "aZcXb")
}

// TestInsertBeforeWhatIsGone: behind the last place that the level sees there still stands a cell that it has deleted.
func TestInsertBeforeWhatIsGone(t *testing.T) {
	d := oneText(t, diamond(), "ab")
	remove(t, d, 1, 1, 2, api.OK)
	insert(t, d, 1, 1, "W", api.OK)
	insert(t, d, 0, 2, "c", api.OK)
	see(t, d, "abc", "aWc", "abc", "aWc")
}

func TestInsertBehindAMask(t *testing.T) {
	d := oneText(t, diamond(), "key")
	insert(t, d, 3, 3, "Z", api.OK)
	insert(t, d, 0, 1, "!", api.OK) // behind the y, the mask's last cell
	see(t, d, "#!", "#!", "#!", "key!Z")
	insert(t, d, 1, 0, "-", api.OK)
	see(t, d, "#!", "-#!", "#!", "-key!Z")
}

func TestDeleteCountsAbove(t *testing.T) {
	d := oneText(t, diamond(), "ABC")
	remove(t, d, 3, 0, 1, api.OK)
	see(t, d, "ABC", "ABC", "ABC", "BC")
	remove(t, d, 2, 1, 2, api.OK)
	see(t, d, "ABC", "ABC", "AC", "C")
	remove(t, d, 1, 0, 3, api.OK)
	see(t, d, "ABC", "", "AC", "")
	remove(t, d, 0, 1, 3, api.OK)
	see(t, d, "A", "", "A", "")
}

// TestDeleteLeavesTheUnseen: cells between those that a level deletes, but that are not there for it, stay.
func TestDeleteLeavesTheUnseen(t *testing.T) {
	d := oneText(t, diamond(), "ABC")
	insert(t, d, 1, 2, "x", api.OK)
	insert(t, d, 2, 1, "y", api.OK)
	insert(t, d, 3, 0, "z", api.OK)
	see(t, d, "ABC", "ABxC", "AyBC", "zAyBxC")
	remove(t, d, 0, 0, 3, api.OK)
	see(t, d, "", "x", "y", "zyx")
	remove(t, d, 1, 0, 1, api.OK)
	see(t, d, "", "", "y", "zy")
}

func TestDeleteAMask(t *testing.T) {
	d := oneText(t, diamond(), "a key.")
	insert(t, d, 3, 4, "1", api.OK)
	see(t, d, "a #.", "a #.", "a #.", "a ke1y.")
	remove(t, d, 1, 2, 3, api.OK) // all cells of the mask
	see(t, d, "a #.", "a .", "a #.", "a 1.")
	remove(t, d, 0, 1, 4, api.OK)
	see(t, d, "a", "a", "a", "a1")
}

func TestRulesStrike(t *testing.T) {
	d := oneText(t, diamond(), "key kay. xkey Key key1key")
	see(t, d, "# #. xkey Key #1#", "# #. xkey Key #1#", "# #. xkey Key #1#", "key kay. xkey Key key1key")
	for _, k := range []struct {
		text  string
		rules []api.Rule
		want  [4]string
	}{
		{"ab 12", []api.Rule{{Pattern: "*", Label: 0}}, [4]string{"ab 12", "ab 12", "ab 12", "ab 12"}},
		{"ab 12", []api.Rule{{Pattern: "*", Label: 1}}, [4]string{"# #", "ab 12", "# #", "ab 12"}},
		{"ab 12", []api.Rule{{Pattern: "1?", Label: 2}}, [4]string{"ab #", "ab #", "ab 12", "ab 12"}},
		{"ab12", []api.Rule{{Pattern: "*", Label: 3}}, [4]string{"#", "#", "#", "ab12"}},
		{"ab12", []api.Rule{{Pattern: "ab12", Label: 3}}, [4]string{"ab12", "ab12", "ab12", "ab12"}},
		{"ab12c", []api.Rule{{Pattern: "12", Label: 1}, {Pattern: "c", Label: 2}}, [4]string{"ab#", "ab12#", "ab#c", "ab12c"}},
		{"ab.b", []api.Rule{{Pattern: "a*", Label: 1}, {Pattern: "b", Label: 2}}, [4]string{"#.#", "ab.#", "#.b", "ab.b"}},
		{"ab", []api.Rule{{Pattern: "ab", Label: 1}, {Pattern: "a?", Label: 2}}, [4]string{"#", "#", "#", "ab"}},
		{"AB !~", []api.Rule{{Pattern: "*", Label: 3}}, [4]string{"AB !~", "AB !~", "AB !~", "AB !~"}},
		{"aBc", []api.Rule{{Pattern: "?", Label: 3}}, [4]string{"#B#", "#B#", "#B#", "aBc"}},
	} {
		d := oneText(t, withRules(k.rules...), k.text)
		see(t, d, k.want[:]...)
	}
}

// TestWordsOfTheFirstView: a word is what stands side by side for this level, whatever stands between for others.
func TestWordsOfTheFirstView(t *testing.T) {
	d := oneText(t, diamond(), "ky")
	insert(t, d, 1, 1, "a", api.OK)
	see(t, d, "ky", "#", "ky", "kay")
	insert(t, d, 2, 1, "1", api.OK)
	see(t, d, "ky", "#", "k1y", "k1ay")
	insert(t, d, 0, 1, "xe", api.OK)
	see(t, d, "kxey", "kxeay", "kxe1y", "kxe1ay")
	remove(t, d, 1, 1, 3, api.OK)
	see(t, d, "kxey", "#", "kxe1y", "k1ay")
	remove(t, d, 0, 1, 2, api.OK)
	see(t, d, "#", "#", "ke1y", "k1ay")
}

func TestSpans(t *testing.T) {
	c := withRules(api.Rule{Pattern: "k?y", Label: 3}, api.Rule{Pattern: "99", Label: 3})
	d := oneText(t, c, "ab  12c key99.~Zz {key`")
	see(t, d, "ab  12c #.~Zz {#`")
	spansAre(t, d, 0,
		span(api.Word, 0, 2), span(api.Number, 4, 6), span(api.Word, 6, 7), span(api.Masked, 8, 9),
		span(api.Sign, 9, 10), span(api.Sign, 10, 11), span(api.Sign, 11, 12), span(api.Word, 12, 13),
		span(api.Sign, 14, 15), span(api.Masked, 15, 16), span(api.Sign, 16, 17))
	find(t, d, 0, "*", span(api.Word, 0, 2), span(api.Number, 4, 6), span(api.Word, 6, 7), span(api.Word, 12, 13))
	find(t, d, 0, "?", span(api.Word, 6, 7), span(api.Word, 12, 13))
	find(t, d, 0, "ab", span(api.Word, 0, 2))
	find(t, d, 0, "a")
	find(t, d, 0, "k*")
	find(t, d, 3, "k*", span(api.Word, 8, 11), span(api.Word, 19, 22))
	find(t, d, 3, "9*", span(api.Number, 11, 13))
	blanks := oneText(t, c, "   ")
	spansAre(t, blanks, 0)
	find(t, blanks, 0, "*")
}

// TestSpansOfAllBytes: the kinds of all bytes that can be inserted.
func TestSpansOfAllBytes(t *testing.T) {
	for b := 32; b <= 126; b++ {
		if b == api.Mask {
			continue
		}
		text := string([]byte{byte(b)})
		d := oneText(t, labels(1), text)
		see(t, d, text)
		if b == ' ' {
			spansAre(t, d, 0)
		} else {
			spansAre(t, d, 0, span(kindOfSpan(text), 0, 1))
		}
	}
}

func TestQuota(t *testing.T) {
	whole := strings.Repeat("x", api.MaxInsert)
	d := open(t, diamond())
	for n := api.MaxCells; n > 0; n -= api.MaxInsert {
		left(t, d, 2, n)
		insert(t, d, 2, 0, whole, api.OK)
	}
	left(t, d, 2, 0)
	insert(t, d, 2, api.MaxCells, "x", api.ErrQuota)
	remove(t, d, 3, 0, 100, api.OK)
	remove(t, d, 2, 0, api.MaxCells, api.OK)
	left(t, d, 2, 0)
	insert(t, d, 2, 0, "x", api.ErrQuota)
	for level := range 2 {
		left(t, d, level, api.MaxCells)
		insert(t, d, level, 0, whole[1:], api.OK)
		left(t, d, level, api.MaxCells-api.MaxInsert+1)
	}
	for range 4 {
		insert(t, d, 1, 0, whole, api.OK)
	}
	insert(t, d, 1, 0, "xy", api.ErrQuota)
	left(t, d, 1, 1)
	insert(t, d, 1, 0, "y", api.OK)
	left(t, d, 1, 0)
	left(t, d, 3, api.MaxCells)
}

// TestAllFull: every level of the greatest order inserts as much as it may.
func TestAllFull(t *testing.T) {
	c := labels(6, 0, 1, 1, 2, 2, 3, 3, 4, 4, 5)
	c.Rules = []api.Rule{{Pattern: "*x*x*x*x*x*y", Label: 5}, {Pattern: "*9", Label: 5}}
	d := open(t, c)
	for level := range c.Labels {
		for range api.MaxCells / api.MaxInsert {
			insert(t, d, level, 0, strings.Repeat("x", api.MaxInsert), api.OK)
		}
		insert(t, d, level, 0, "x", api.ErrQuota)
	}
	for level := range c.Labels {
		spansAre(t, d, level, span(api.Word, 0, (level+1)*api.MaxCells))
	}
	remove(t, d, 5, 0, 6*api.MaxCells, api.OK)
	see(t, d, strings.Repeat("x", api.MaxCells), strings.Repeat("x", 2*api.MaxCells))
	if v, e := d.View(5); v != "" || e != api.OK {
		t.Errorf("P8: all is deleted, View(5) = %q, %d", v, e)
	}
}
