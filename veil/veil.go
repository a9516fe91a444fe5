// Package veil: a document of which each level has its own view: see DOC.md.
package veil

import (
	"veil/api"
	"veil/config"
	"veil/order"
	"veil/patterns"
)

// Check tells whether a configuration is right (P3).
func Check(c api.Config) api.Errno {
	_, e := config.Check(c)
	return e
}

// orderOf gives the order of a configuration in which a and b are labels.
func orderOf(c api.Config, a int, b int) (order.Order, api.Errno) {
	o, e := config.Check(c)
	if e != api.OK {
		return order.Order{}, e
	}
	if !o.Has(a) || !o.Has(b) {
		return order.Order{}, api.ErrLevel
	}
	return o, api.OK
}

// Leq tells whether a label is another, or below it (P4).
func Leq(c api.Config, a int, b int) (bool, api.Errno) {
	o, e := orderOf(c, a, b)
	if e != api.OK {
		return false, e
	}
	return o.Leq(a, b), api.OK
}

// Join tells the least label above two (P4).
func Join(c api.Config, a int, b int) (int, api.Errno) {
	o, e := orderOf(c, a, b)
	if e != api.OK {
		return 0, e
	}
	return o.Join(a, b), api.OK
}

// Meet tells the greatest label below two (P4).
func Meet(c api.Config, a int, b int) (int, api.Errno) {
	o, e := orderOf(c, a, b)
	if e != api.OK {
		return 0, e
	}
	return o.Meet(a, b), api.OK
}

// Match tells whether a text matches a pattern (P5).
func Match(pattern string, text string) (bool, api.Errno) {
	if !patterns.Valid(pattern) {
		return false, api.ErrText
	}
	return patterns.Matches(pattern, text), api.OK
}
