package veil

import (
	"veil/api"
	"veil/config"
	"veil/logs"
	"veil/news"
	"veil/order"
	"veil/patterns"
	"veil/row"
	"veil/spans"
	"veil/views"
)

// Doc is a document.
type Doc struct {
	order    order.Order
	rules    []api.Rule
	granted  [api.MaxLabels][api.MaxLabels]bool // from a level to a target
	row      row.Row
	inserted [api.MaxLabels]int // bytes of each level
	logs     logs.Logs
	news     news.News
}

// Open opens a document (P6).
func Open(c api.Config) (*Doc, api.Errno) {
	o, e := config.Check(c)
	if e != api.OK {
		return nil, e
	}
	d := Doc{order: o}
	d.row = row.New(o)
	d.news = news.New(o)
	d.rules = copyOf(c.Rules)
	d.granted = grantedBy(c.Grants, o)
	return &d, api.OK
}

// copyOf copies the texts of the patterns too: they may be pieces of texts far
// greater, which would be kept with them.
func copyOf(rules []api.Rule) []api.Rule {
	var l []api.Rule
	for _, r := range rules {
		pattern := []byte(r.Pattern)
		l = append(l, api.Rule{Pattern: string(pattern), Label: r.Label})
	}
	return l
}

// grantedBy tells from which level to which target there is a grant.
func grantedBy(grants []api.Grant, o order.Order) [api.MaxLabels][api.MaxLabels]bool {
	var granted [api.MaxLabels][api.MaxLabels]bool
	for _, g := range grants {
		if o.Has(g.From) && o.Has(g.To) {
			granted[g.From][g.To] = true
		}
	}
	return granted
}

// Insert inserts a text at a level (P7).
func (d *Doc) Insert(level int, at int, text string) api.Errno {
	if !d.order.Has(level) {
		return api.ErrLevel
	}
	places := d.placesOf(level)
	if at < 0 || at > len(places) {
		return api.ErrAt
	}
	if !mayBeInserted(text) {
		return api.ErrText
	}
	if d.inserted[level]+len(text) > api.MaxCells {
		return api.ErrQuota
	}
	number := 0
	if at > 0 {
		number = places[at-1].Last + 1
	}
	d.row.Insert(level, number, text)
	d.inserted[level] += len(text)
	d.news.Tell(api.Inserted, level, level)
	return api.OK
}

// mayBeInserted tells whether a text is one that can be inserted.
func mayBeInserted(text string) bool {
	if len(text) < 1 || len(text) > api.MaxInsert {
		return false
	}
	for i := 0; i < len(text); i++ {
		if text[i] < 32 || text[i] > 126 || text[i] == api.Mask {
			return false
		}
	}
	return true
}

// Delete deletes at a level (P8).
func (d *Doc) Delete(level int, from int, to int) api.Errno {
	if !d.order.Has(level) {
		return api.ErrLevel
	}
	places := d.placesOf(level)
	if !isPiece(from, to, len(places)) {
		return api.ErrAt
	}
	d.row.Delete(level, places[from].First, places[to-1].Last)
	d.news.Tell(api.Deleted, level, level)
	return api.OK
}

// isPiece tells whether the places from from up to to are some of n places.
func isPiece(from int, to int, n int) bool {
	return from >= 0 && from < to && to <= n
}

// Raise raises the label of a piece (P12).
func (d *Doc) Raise(level int, from int, to int, label int) api.Errno {
	if !d.order.Has(level) || !d.order.Has(label) {
		return api.ErrLevel
	}
	places := d.placesOf(level)
	if !isPiece(from, to, len(places)) {
		return api.ErrAt
	}
	d.row.Raise(level, places[from].First, places[to-1].Last, label)
	d.news.Tell(api.Raised, level, level)
	return api.OK
}

// Release gives a piece free for a level below (P13).
func (d *Doc) Release(level int, from int, to int, target int) api.Errno {
	if !d.order.Has(level) || !d.order.Has(target) {
		return api.ErrLevel
	}
	if !d.granted[level][target] {
		return api.ErrGrant
	}
	places := d.placesOf(level)
	if !isPiece(from, to, len(places)) {
		return api.ErrAt
	}
	if views.HaveMask(places[from:to]) {
		return api.ErrMask
	}
	first := places[from].First
	last := places[to-1].Last
	if !d.row.StemFrom(level, first, last, target) {
		return api.ErrOrigin
	}
	if d.logs.IsFull(target) {
		return api.ErrLog
	}
	d.row.Release(level, first, last, target)
	d.news.Tell(api.Released, level, target)
	// Each of these places is one cell, as none is a mask.
	version := d.news.Version(target)
	d.logs.Add(target, api.Record{By: level, Cells: to - from, Version: version})
	return api.OK
}

// View tells what a level sees (P9).
func (d *Doc) View(level int) (string, api.Errno) {
	if !d.order.Has(level) {
		return "", api.ErrLevel
	}
	return d.textOf(level), api.OK
}

// Spans tells of which pieces a view is (P10).
func (d *Doc) Spans(level int) ([]api.Span, api.Errno) {
	if !d.order.Has(level) {
		return nil, api.ErrLevel
	}
	text := d.textOf(level)
	return spans.Of(text), api.OK
}

// Find tells which words and numbers of a view match a pattern (P10).
func (d *Doc) Find(level int, pattern string) ([]api.Span, api.Errno) {
	if !d.order.Has(level) {
		return nil, api.ErrLevel
	}
	if !patterns.Valid(pattern) {
		return nil, api.ErrText
	}
	text := d.textOf(level)
	return spans.Find(text, pattern), api.OK
}

// Left tells how many bytes a level may still insert (P11).
func (d *Doc) Left(level int) (int, api.Errno) {
	if !d.order.Has(level) {
		return 0, api.ErrLevel
	}
	return api.MaxCells - d.inserted[level], api.OK
}

// Log tells what was released to a level (P14).
func (d *Doc) Log(level int) ([]api.Record, api.Errno) {
	if !d.order.Has(level) {
		return nil, api.ErrLevel
	}
	return d.logs.Of(level), api.OK
}

// Version tells how often something has changed for a level (P14).
func (d *Doc) Version(level int) (int, api.Errno) {
	if !d.order.Has(level) {
		return 0, api.ErrLevel
	}
	return d.news.Version(level), api.OK
}

// Poll tells what others did since the last Poll (P15).
func (d *Doc) Poll(level int) ([]api.Notice, api.Errno) {
	if !d.order.Has(level) {
		return nil, api.ErrLevel
	}
	return d.news.Poll(level), api.OK
}

// textOf gives a level's view as a text.
func (d *Doc) textOf(level int) string {
	places := d.placesOf(level)
	return views.Text(places)
}

// placesOf gives the places of a level's view.
func (d *Doc) placesOf(level int) []views.Place {
	seen := d.row.FirstView(level)
	against := d.patternsAgainst(level)
	return views.Of(seen, against)
}

// patternsAgainst gives the patterns of the rules that can strike for a level.
func (d *Doc) patternsAgainst(level int) []string {
	var l []string
	for _, r := range d.rules {
		if !d.order.Leq(r.Label, level) {
			l = append(l, r.Pattern)
		}
	}
	return l
}
