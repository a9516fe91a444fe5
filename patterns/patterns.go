// Package patterns: patterns, and which texts match them.
package patterns

import "veil/api"

// Valid tells whether a text is a pattern.
func Valid(pattern string) bool {
	if len(pattern) < 1 || len(pattern) > api.MaxWord {
		return false
	}
	for i := 0; i < len(pattern); i++ {
		if !mayStand(pattern[i]) {
			return false
		}
	}
	return true
}

// mayStand tells whether a byte may stand in a pattern.
func mayStand(b byte) bool {
	isLetter := b >= 'a' && b <= 'z'
	isDigit := b >= '0' && b <= '9'
	return isLetter || isDigit || b == '?' || b == '*'
}

// Matches tells whether a text matches a pattern. What is no pattern is matched
// by none.
//
// It reads the text once and keeps all ways to cut it at the same time: trying
// them one by one could take far too long with several stars.
func Matches(pattern string, text string) bool {
	if !Valid(pattern) {
		return false
	}
	c := cutNothing(pattern)
	for i := 0; i < len(text); i++ {
		c = c.readOn(pattern, text[i])
	}
	return c[len(pattern)]
}

// cuts: for each n, whether the text that was read can be cut into pieces of
// the pattern's first n bytes.
type cuts [api.MaxWord + 1]bool

// cutNothing gives the cuts of the empty text: just stars have empty pieces.
func cutNothing(pattern string) cuts {
	var c cuts
	c[0] = true
	for n := 0; n < len(pattern) && n < api.MaxWord; n++ {
		c[n+1] = c[n] && pattern[n] == '*'
	}
	return c
}

// readOn gives the cuts of the text with one byte more at its end.
func (c cuts) readOn(pattern string, b byte) cuts {
	var next cuts
	for n := 0; n < len(pattern) && n < api.MaxWord; n++ {
		if pattern[n] == '*' {
			// The star's piece is empty, or it ends with this byte.
			next[n+1] = next[n] || c[n+1]
		} else if pattern[n] == '?' || pattern[n] == b {
			next[n+1] = c[n]
		}
	}
	return next
}
