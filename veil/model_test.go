package veil_test

import (
	"regexp"
	"slices"
	"strings"
	"testing"

	"veil/api"
	"veil/veil"
)

// model: a document as DOC.md's words tell it, with nothing made short.
type model struct {
	c        api.Config
	leq      [api.MaxLabels][api.MaxLabels]bool
	row      []modelCell
	inserted [api.MaxLabels]int
}

func newModel(c api.Config) *model {
	m := &model{c: c}
	for a := range c.Labels {
		for b := range c.Labels {
			m.leq[a][b], _ = veil.Leq(c, a, b)
		}
	}
	return m
}

type modelCell struct {
	char      byte
	origin    int
	deletedBy []int
}

// modelPlace: the byte of a place, and the numbers of all its cells in the row.
type modelPlace struct {
	char  byte
	cells []int
}

func (m *model) isLabel(a int) bool { return a >= 0 && a < m.c.Labels }

func (m *model) isThere(c modelCell, d int) bool {
	counts := func(by int) bool { return m.leq[by][d] }
	return m.leq[c.origin][d] && !slices.ContainsFunc(c.deletedBy, counts)
}

var expressions = map[string]*regexp.Regexp{}

// matches tells by means of a regular expression whether a text matches a pattern.
func matches(pattern string, text string) bool {
	if expressions[pattern] == nil {
		r := strings.NewReplacer("?", ".", "*", ".*")
		expressions[pattern] = regexp.MustCompile("^(?s:" + r.Replace(pattern) + ")$")
	}
	return expressions[pattern].MatchString(text)
}

var wordsAndNumbers = regexp.MustCompile("[a-z]+|[0-9]+")

func (m *model) isStruck(text string, d int) bool {
	for _, r := range m.c.Rules {
		if !m.leq[r.Label][d] && matches(r.Pattern, text) {
			return true
		}
	}
	return false
}

func (m *model) places(d int) []modelPlace {
	var first []int
	text := ""
	for i, c := range m.row {
		if m.isThere(c, d) {
			first = append(first, i)
			text += string(c.char)
		}
	}
	hidden := make([]bool, len(first))
	for _, w := range wordsAndNumbers.FindAllStringIndex(text, -1) {
		for i := w[0]; i < w[1]; i++ {
			hidden[i] = m.isStruck(text[w[0]:w[1]], d)
		}
	}
	var l []modelPlace
	for i, n := range first {
		if hidden[i] && i > 0 && hidden[i-1] {
			l[len(l)-1].cells = append(l[len(l)-1].cells, n)
		} else if hidden[i] {
			l = append(l, modelPlace{api.Mask, []int{n}})
		} else {
			l = append(l, modelPlace{text[i], []int{n}})
		}
	}
	return l
}

func (m *model) view(d int) string {
	text := ""
	for _, p := range m.places(d) {
		text += string(p.char)
	}
	return text
}

var anySpan = regexp.MustCompile("[a-z]+|[0-9]+|[^ ]")

func kindOfSpan(text string) int {
	switch {
	case strings.Contains("abcdefghijklmnopqrstuvwxyz", text[:1]):
		return api.Word
	case strings.Contains("0123456789", text[:1]):
		return api.Number
	case text == "#":
		return api.Masked
	}
	return api.Sign
}

func (m *model) spans(d int) []api.Span {
	var l []api.Span
	text := m.view(d)
	for _, s := range anySpan.FindAllStringIndex(text, -1) {
		l = append(l, span(kindOfSpan(text[s[0]:s[1]]), s[0], s[1]))
	}
	return l
}

func (m *model) find(d int, pattern string) []api.Span {
	var l []api.Span
	text := m.view(d)
	for _, s := range m.spans(d) {
		if (s.Kind == api.Word || s.Kind == api.Number) && matches(pattern, text[s.From:s.To]) {
			l = append(l, s)
		}
	}
	return l
}

var insertable = regexp.MustCompile(`^[\x20-\x22\x24-\x7e]{1,40}$`)

func (m *model) insert(level int, at int, text string) api.Errno {
	if !m.isLabel(level) {
		return api.ErrLevel
	}
	places := m.places(level)
	switch {
	case at < 0 || at > len(places):
		return api.ErrAt
	case !insertable.MatchString(text):
		return api.ErrText
	case m.inserted[level]+len(text) > api.MaxCells:
		return api.ErrQuota
	}
	number := 0
	if at > 0 {
		cells := places[at-1].cells
		number = cells[len(cells)-1] + 1
	}
	for i := range len(text) {
		m.row = slices.Insert(m.row, number+i, modelCell{char: text[i], origin: level})
	}
	m.inserted[level] += len(text)
	return api.OK
}

func (m *model) delete(level int, from int, to int) api.Errno {
	if !m.isLabel(level) {
		return api.ErrLevel
	}
	places := m.places(level)
	if from < 0 || from >= to || to > len(places) {
		return api.ErrAt
	}
	for _, p := range places[from:to] {
		for _, n := range p.cells {
			m.row[n].deletedBy = append(m.row[n].deletedBy, level)
		}
	}
	return api.OK
}

// testSame asks that the document answers each level as the model does.
func (m *model) testSame(t *testing.T, d *veil.Doc, pattern string) {
	t.Helper()
	for level := range m.c.Labels {
		if v, e := d.View(level); v != m.view(level) || e != api.OK {
			t.Fatalf("P9: View(%d) = %q, %d, want %q", level, v, e, m.view(level))
		}
		if l, e := d.Spans(level); !slices.Equal(l, m.spans(level)) || e != api.OK {
			t.Fatalf("P10: Spans(%d) = %v, %d, want %v", level, l, e, m.spans(level))
		}
		if l, e := d.Find(level, pattern); !slices.Equal(l, m.find(level, pattern)) || e != api.OK {
			t.Fatalf("P10: Find(%d, %q) = %v, %d, want %v", level, pattern, l, e, m.find(level, pattern))
		}
		if n, e := d.Left(level); n != api.MaxCells-m.inserted[level] || e != api.OK {
			t.Fatalf("P11: Left(%d) = %d, %d, want %d", level, n, e, api.MaxCells-m.inserted[level])
		}
	}
}
