package veil_test

import (
	"regexp"
	"slices"
	"strings"
	"testing"

	"veil/api"
	"veil/veil"
)

// model: a document as DOC.md's words tell it, with nothing made short.
type model struct {
	c        api.Config
	leq      [api.MaxLabels][api.MaxLabels]bool
	row      []modelCell
	inserted [api.MaxLabels]int
	done     []deed
	polled   [api.MaxLabels]int // what was done before the level's last Poll
}

// deed: something that was done and answered OK.
type deed struct {
	kind, by int
	lowest   int // for this level and those above it it counts
	cells    int // that were released
}

func newModel(c api.Config) *model {
	m := &model{c: c}
	for a := range c.Labels {
		for b := range c.Labels {
			m.leq[a][b], _ = veil.Leq(c, a, b)
		}
	}
	return m
}

type modelCell struct {
	char     byte
	origin   int
	happened []event
}

// event: what happened to a cell: it was deleted (api.Deleted) or raised (api.Raised) by a level, or released (api.Released) to a target.
type event struct {
	kind  int
	who   int // the level, or the target
	label int // to which it was raised
}

// modelPlace: the byte of a place, and the numbers of all its cells in the row.
type modelPlace struct {
	char  byte
	cells []int
}

func (m *model) isLabel(a int) bool { return a >= 0 && a < m.c.Labels }

// counting gives what happened to a cell and counts for d, in the order of time.
func (m *model) counting(c modelCell, d int) []event {
	var l []event
	for _, e := range c.happened {
		if m.leq[e.who][d] {
			l = append(l, e)
		}
	}
	return l
}

func (m *model) isThere(c modelCell, d int) bool {
	isDeletion := func(e event) bool { return e.kind == api.Deleted }
	return m.leq[c.origin][d] && !slices.ContainsFunc(m.counting(c, d), isDeletion)
}

func (m *model) label(c modelCell, d int) int {
	label := c.origin
	for _, e := range m.counting(c, d) {
		switch e.kind {
		case api.Raised:
			label, _ = veil.Join(m.c, label, e.label)
		case api.Released:
			label = c.origin
		}
	}
	return label
}

func (m *model) isFree(c modelCell, d int) bool {
	isDeletion := func(e event) bool { return e.kind == api.Deleted }
	l := slices.DeleteFunc(m.counting(c, d), isDeletion)
	return len(l) > 0 && l[len(l)-1].kind == api.Released
}

var expressions = map[string]*regexp.Regexp{}

// matches tells by means of a regular expression whether a text matches a pattern.
func matches(pattern string, text string) bool {
	if expressions[pattern] == nil {
		r := strings.NewReplacer("?", ".", "*", ".*")
		expressions[pattern] = regexp.MustCompile("^(?s:" + r.Replace(pattern) + ")$")
	}
	return expressions[pattern].MatchString(text)
}

var wordsAndNumbers = regexp.MustCompile("[a-z]+|[0-9]+")

func (m *model) isStruck(text string, d int) bool {
	for _, r := range m.c.Rules {
		if !m.leq[r.Label][d] && matches(r.Pattern, text) {
			return true
		}
	}
	return false
}

func (m *model) places(d int) []modelPlace {
	var first []int
	var hidden []bool
	text := ""
	words := "" // the text, with ! where no word goes on
	for i, c := range m.row {
		if m.isThere(c, d) {
			first = append(first, i)
			isHidden := !m.leq[m.label(c, d)][d]
			hidden = append(hidden, isHidden)
			text += string(c.char)
			if isHidden {
				words += "!"
			} else {
				words += string(c.char)
			}
		}
	}
	for _, w := range wordsAndNumbers.FindAllStringIndex(words, -1) {
		for i := w[0]; i < w[1]; i++ {
			hidden[i] = m.isStruck(text[w[0]:w[1]], d) && !m.isFree(m.row[first[i]], d)
		}
	}
	var l []modelPlace
	for i, n := range first {
		if hidden[i] && i > 0 && hidden[i-1] {
			l[len(l)-1].cells = append(l[len(l)-1].cells, n)
		} else if hidden[i] {
			l = append(l, modelPlace{api.Mask, []int{n}})
		} else {
			l = append(l, modelPlace{text[i], []int{n}})
		}
	}
	return l
}

func (m *model) view(d int) string {
	text := ""
	for _, p := range m.places(d) {
		text += string(p.char)
	}
	return text
}

var anySpan = regexp.MustCompile("[a-z]+|[0-9]+|[^ ]")

func kindOfSpan(text string) int {
	switch {
	case strings.Contains("abcdefghijklmnopqrstuvwxyz", text[:1]):
		return api.Word
	case strings.Contains("0123456789", text[:1]):
		return api.Number
	case text == "#":
		return api.Masked
	}
	return api.Sign
}

func spansOf(text string) []api.Span {
	var l []api.Span
	for _, s := range anySpan.FindAllStringIndex(text, -1) {
		l = append(l, span(kindOfSpan(text[s[0]:s[1]]), s[0], s[1]))
	}
	return l
}

func findIn(text string, pattern string) []api.Span {
	var l []api.Span
	for _, s := range spansOf(text) {
		if (s.Kind == api.Word || s.Kind == api.Number) && matches(pattern, text[s.From:s.To]) {
			l = append(l, s)
		}
	}
	return l
}

var insertable = regexp.MustCompile(`^[\x20-\x22\x24-\x7e]{1,40}$`)

// does lays down that something was done, if it was answered OK.
func (m *model) does(e api.Errno, n deed) api.Errno {
	if e == api.OK {
		m.done = append(m.done, n)
	}
	return e
}

// version counts those of the first n things that were done that count for a level.
func (m *model) version(level int, n int) int {
	count := 0
	for _, k := range m.done[:n] {
		if m.leq[k.lowest][level] {
			count++
		}
	}
	return count
}

func (m *model) log(level int) []api.Record {
	var l []api.Record
	for i, k := range m.done {
		if k.kind == api.Released && k.lowest == level {
			l = append(l, record(k.by, k.cells, m.version(level, i+1)))
		}
	}
	return l
}

func (m *model) poll(level int) []api.Notice {
	var l []api.Notice
	for _, k := range m.done[m.polled[level]:] {
		if m.leq[k.lowest][level] && k.by != level {
			l = append(l, notice(k.kind, k.by))
		}
	}
	m.polled[level] = len(m.done)
	if len(l) > api.MaxNotices {
		return []api.Notice{notice(api.Resync, -1)}
	}
	return l
}

func (m *model) insert(level int, at int, text string) api.Errno {
	if !m.isLabel(level) {
		return api.ErrLevel
	}
	places := m.places(level)
	switch {
	case at < 0 || at > len(places):
		return api.ErrAt
	case !insertable.MatchString(text):
		return api.ErrText
	case m.inserted[level]+len(text) > api.MaxCells:
		return api.ErrQuota
	}
	number := 0
	if at > 0 {
		cells := places[at-1].cells
		number = cells[len(cells)-1] + 1
	}
	for i := range len(text) {
		m.row = slices.Insert(m.row, number+i, modelCell{char: text[i], origin: level})
	}
	m.inserted[level] += len(text)
	return m.does(api.OK, deed{kind: api.Inserted, by: level, lowest: level})
}

// piece gives the numbers of the cells of some places, and ErrAt if they are none.
func (m *model) piece(level int, from int, to int) ([]int, api.Errno) {
	places := m.places(level)
	if from < 0 || from >= to || to > len(places) {
		return nil, api.ErrAt
	}
	var l []int
	for _, p := range places[from:to] {
		l = append(l, p.cells...)
	}
	return l, api.OK
}

func (m *model) happens(cells []int, e event) {
	for _, n := range cells {
		m.row[n].happened = append(m.row[n].happened, e)
	}
}

func (m *model) delete(level int, from int, to int) api.Errno {
	if !m.isLabel(level) {
		return api.ErrLevel
	}
	cells, e := m.piece(level, from, to)
	m.happens(cells, event{kind: api.Deleted, who: level})
	return m.does(e, deed{kind: api.Deleted, by: level, lowest: level})
}

func (m *model) raise(level int, from int, to int, label int) api.Errno {
	if !m.isLabel(level) || !m.isLabel(label) {
		return api.ErrLevel
	}
	cells, e := m.piece(level, from, to)
	m.happens(cells, event{kind: api.Raised, who: level, label: label})
	return m.does(e, deed{kind: api.Raised, by: level, lowest: level})
}

func (m *model) release(level int, from int, to int, target int) api.Errno {
	if !m.isLabel(level) || !m.isLabel(target) {
		return api.ErrLevel
	}
	if !slices.Contains(m.c.Grants, api.Grant{From: level, To: target}) {
		return api.ErrGrant
	}
	cells, e := m.piece(level, from, to)
	if e != api.OK {
		return e
	}
	stranger := func(n int) bool { return !m.leq[m.row[n].origin][target] }
	switch {
	case strings.Contains(m.view(level)[from:to], "#"):
		return api.ErrMask
	case slices.ContainsFunc(cells, stranger):
		return api.ErrOrigin
	case len(m.log(target)) == api.MaxLog:
		return api.ErrLog
	}
	m.happens(cells, event{kind: api.Released, who: target})
	return m.does(api.OK, deed{kind: api.Released, by: level, lowest: target, cells: len(cells)})
}

// testSame asks that the document answers each level as the model does.
func (m *model) testSame(t *testing.T, d *veil.Doc, pattern string) {
	t.Helper()
	for level := range m.c.Labels {
		text := m.view(level)
		if v, e := d.View(level); v != text || e != api.OK {
			t.Fatalf("P9: View(%d) = %q, %d, want %q", level, v, e, text)
		}
		if l, e := d.Spans(level); !slices.Equal(l, spansOf(text)) || e != api.OK {
			t.Fatalf("P10: Spans(%d) = %v, %d, want %v", level, l, e, spansOf(text))
		}
		found := findIn(text, pattern)
		if l, e := d.Find(level, pattern); !slices.Equal(l, found) || e != api.OK {
			t.Fatalf("P10: Find(%d, %q) = %v, %d, want %v", level, pattern, l, e, found)
		}
		if n, e := d.Left(level); n != api.MaxCells-m.inserted[level] || e != api.OK {
			t.Fatalf("P11: Left(%d) = %d, %d, want %d", level, n, e, api.MaxCells-m.inserted[level])
		}
		version := m.version(level, len(m.done))
		if n, e := d.Version(level); n != version || e != api.OK {
			t.Fatalf("P14: Version(%d) = %d, %d, want %d", level, n, e, version)
		}
		if l, e := d.Log(level); !slices.Equal(l, m.log(level)) || e != api.OK {
			t.Fatalf("P14: Log(%d) = %v, %d, want %v", level, l, e, m.log(level))
		}
	}
}

// testPoll asks that the document has the notices for a level that the model has.
func (m *model) testPoll(t *testing.T, d *veil.Doc, level int) {
	t.Helper()
	want := m.poll(level)
	if l, e := d.Poll(level); !slices.Equal(l, want) || e != api.OK {
		t.Fatalf("P15: Poll(%d) = %v, %d, want %v", level, l, e, want)
	}
}
