// Package veil: a document of which each level has its own view: see DOC.md.
package veil

import (
	"veil/api"
	"veil/config"
	"veil/order"
	"veil/patterns"
)

// Check tells whether a configuration is right (P3).
func Check(c api.Config) api.Errno {
	_, e := config.Check(c)
	return e
}

// orderOf gives the order of a configuration in which a and b are labels.
func orderOf(c api.Config, a int, b int) (order.Order, api.Errno) {
	o, e := config.Check(c)
	if e != api.OK {
		return order.Order{}, e
	}
	if !o.Has(a) || !o.Has(b) {
		return order.Order{}, api.ErrLevel
	}
	return o, api.OK
}

// Leq tells whether a label is another, or below it (P4).
func Leq(c api.Config, a int, b int) (bool, api.Errno) {
	o, e := orderOf(c, a, b)
	if e != api.OK {
		return false, e
	}
	return o.Leq(a, b), api.OK
}

// Join tells the least label above two (P4).
func Join(c api.Config, a int, b int) (int, api.Errno) {
	o, e := orderOf(c, a, b)
	if e != api.OK {
		return 0, e
	}
	return o.Join(a, b), api.OK
}

// Meet tells the greatest label below two (P4).
func Meet(c api.Config, a int, b int) (int, api.Errno) {
	o, e := orderOf(c, a, b)
	if e != api.OK {
		return 0, e
	}
	return o.Meet(a, b), api.OK
}

// Match tells whether a text matches a pattern (P5).
func Match(pattern string, text string) (bool, api.Errno) {
	if !patterns.Valid(pattern) {
		return false, api.ErrText
	}
	return patterns.Matches(pattern, text), api.OK
}

// Doc is a document.
type Doc struct{}

// Open opens a document (P6).
func Open(c api.Config) (*Doc, api.Errno) { return nil, api.OK }

// Insert inserts a text at a level (P7).
func (d *Doc) Insert(level int, at int, text string) api.Errno { return api.OK }

// Delete deletes at a level (P8).
func (d *Doc) Delete(level int, from int, to int) api.Errno { return api.OK }

// View tells what a level sees (P9).
func (d *Doc) View(level int) (string, api.Errno) { return "", api.OK }

// Spans tells of which pieces a view is (P10).
func (d *Doc) Spans(level int) ([]api.Span, api.Errno) { return nil, api.OK }

// Find tells which words and numbers of a view match a pattern (P10).
func (d *Doc) Find(level int, pattern string) ([]api.Span, api.Errno) { return nil, api.OK }

// Left tells how many bytes a level may still insert (P11).
func (d *Doc) Left(level int) (int, api.Errno) { return 0, api.OK }

// Raise raises the label of a piece (P12).
func (d *Doc) Raise(level int, from int, to int, label int) api.Errno { return api.OK }

// Release gives a piece free for a level below (P13).
func (d *Doc) Release(level int, from int, to int, target int) api.Errno { return api.OK }

// Log tells what was released to a level (P14).
func (d *Doc) Log(level int) ([]api.Record, api.Errno) { return nil, api.OK }

// Version tells how often something has changed for a level (P14).
func (d *Doc) Version(level int) (int, api.Errno) { return 0, api.OK }

// Poll tells what others did since the last Poll (P15).
func (d *Doc) Poll(level int) ([]api.Notice, api.Errno) { return nil, api.OK }
