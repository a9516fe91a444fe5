// Package views: what a level sees of the cells that are there for it.
package views

import (
	"veil/api"
	"veil/row"
	"veil/spans"
)

// Place: a place of a view: its byte (api.Mask, if it is a mask), and the
// numbers in the row of its first and its last cell.
type Place struct {
	Char        byte
	First, Last int
}

// Of gives the places of the view of these cells, in which words and numbers
// that match one of the patterns are hidden too, but for free cells.
func Of(seen []row.Seen, against []string) []Place {
	text := textOf(seen)
	struck := strike(text, against)
	masked := mask(seen, text, struck)
	return join(seen, masked)
}

// Text gives a view as a text.
func Text(places []Place) string {
	var text []byte
	for _, p := range places {
		text = append(text, p.Char)
	}
	return string(text)
}

// HaveMask tells whether one of these places is a mask.
func HaveMask(places []Place) bool {
	for _, p := range places {
		if p.Char == api.Mask {
			return true
		}
	}
	return false
}

// textOf gives the text of the cells, with a mask for each that its label hides:
// so no word or number goes over it.
func textOf(seen []row.Seen) string {
	var text []byte
	for _, s := range seen {
		if s.Hidden {
			text = append(text, api.Mask)
		} else {
			text = append(text, s.Char)
		}
	}
	return string(text)
}

// strike gives the words and numbers that match one of the patterns.
func strike(text string, against []string) []api.Span {
	var l []api.Span
	for _, pattern := range against {
		found := spans.Find(text, pattern)
		l = append(l, found...)
	}
	return l
}

// mask gives the text with masks in place of what is struck and not free. The
// text has a byte for each cell.
func mask(seen []row.Seen, text string, struck []api.Span) string {
	masked := []byte(text)
	for _, s := range struck {
		for i := s.From; i >= 0 && i < s.To && i < len(masked) && i < len(seen); i++ {
			if !seen[i].Free {
				masked[i] = api.Mask
			}
		}
	}
	return string(masked)
}

// join makes one place of the masks that stand side by side. The text has a
// byte for each cell.
func join(seen []row.Seen, text string) []Place {
	var places []Place
	for i := 0; i < len(seen) && i < len(text); i++ {
		before := len(places) - 1
		if before >= 0 && places[before].Char == api.Mask && text[i] == api.Mask {
			places[before].Last = seen[i].At
		} else {
			places = append(places, Place{Char: text[i], First: seen[i].At, Last: seen[i].At})
		}
	}
	return places
}
