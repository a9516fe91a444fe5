// Package logs: what was released to each level.
package logs

import "veil/api"

// Logs: the entries of each level's log, the oldest first.
type Logs struct {
	entries [api.MaxLabels][]api.Record
}

// IsFull tells whether a level's log can have no entry more.
func (l *Logs) IsFull(level int) bool {
	return !hasLog(level) || len(l.entries[level]) >= api.MaxLog
}

// hasLog tells whether a number can be a level's.
func hasLog(level int) bool {
	return level >= 0 && level < api.MaxLabels
}

// Add lays an entry behind those of a level's log. If the log is full, nothing
// is changed.
func (l *Logs) Add(level int, entry api.Record) {
	if l.IsFull(level) {
		return
	}
	l.entries[level] = append(l.entries[level], entry)
}

// Of gives the entries of a level's log, in a fresh list.
func (l *Logs) Of(level int) []api.Record {
	var entries []api.Record
	if hasLog(level) {
		entries = append(entries, l.entries[level]...)
	}
	return entries
}
