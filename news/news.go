// Package news: what the levels are told of what was done: how often something
// was done that counts for them, and what others did.
package news

import (
	"veil/api"
	"veil/order"
)

// News: the order of the levels, the version of each, and the notices that wait
// for each.
type News struct {
	order    order.Order
	versions [api.MaxLabels]int
	waiting  [api.MaxLabels][]api.Notice
}

// New gives the news of which nothing was done yet.
func New(o order.Order) News {
	return News{order: o}
}

// Tell tells that a level did something of this kind, which counts for the level
// lowest and for those above it.
func (n *News) Tell(kind int, by int, lowest int) {
	for level := 0; level < api.MaxLabels; level++ {
		if n.order.Leq(lowest, level) {
			n.versions[level]++
			if level != by {
				n.add(level, api.Notice{Kind: kind, By: by})
			}
		}
	}
}

// add lays a notice behind those that wait for a level, which is one, or Resync
// in the place of all.
func (n *News) add(level int, notice api.Notice) {
	if isFull(n.waiting[level]) {
		n.waiting[level] = []api.Notice{{Kind: api.Resync, By: -1}}
		return
	}
	n.waiting[level] = append(n.waiting[level], notice)
}

// isFull tells whether no notice can be laid behind these.
func isFull(waiting []api.Notice) bool {
	if len(waiting) >= api.MaxNotices {
		return true
	}
	return len(waiting) > 0 && waiting[0].Kind == api.Resync
}

// Version tells how often something was done that counts for a level.
func (n *News) Version(level int) int {
	if !n.order.Has(level) {
		return 0
	}
	return n.versions[level]
}

// Poll gives the notices that wait for a level, the oldest first, in a fresh
// list. Then none wait any more.
func (n *News) Poll(level int) []api.Notice {
	if !n.order.Has(level) {
		return nil
	}
	var waited []api.Notice
	waited = append(waited, n.waiting[level]...)
	n.waiting[level] = nil
	return waited
}
