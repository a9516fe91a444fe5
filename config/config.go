// Package config: what makes a configuration right.
package config

import (
	"veil/api"
	"veil/order"
	"veil/patterns"
)

// Check gives the order of a configuration's labels, or the first error that
// applies to it.
func Check(c api.Config) (order.Order, api.Errno) {
	o, e := order.New(c.Labels, c.Edges)
	if e != api.OK {
		return order.Order{}, e
	}
	if !areRules(o, c.Rules) {
		return order.Order{}, api.ErrRules
	}
	if !areGrants(o, c.Grants) {
		return order.Order{}, api.ErrGrants
	}
	return o, api.OK
}

func areRules(o order.Order, rules []api.Rule) bool {
	if len(rules) > api.MaxRules {
		return false
	}
	for i, r := range rules {
		if !o.Has(r.Label) || !patterns.Valid(r.Pattern) || isPatternOf(rules[:i], r.Pattern) {
			return false
		}
	}
	return true
}

// isPatternOf tells whether one of these rules has this pattern.
func isPatternOf(rules []api.Rule, text string) bool {
	for _, r := range rules {
		if r.Pattern == text {
			return true
		}
	}
	return false
}

func areGrants(o order.Order, grants []api.Grant) bool {
	if len(grants) > api.MaxGrants {
		return false
	}
	for _, g := range grants {
		// Leq is false of what is no label, so it refuses those too.
		if g.To == g.From || !o.Leq(g.To, g.From) {
			return false
		}
	}
	return true
}
