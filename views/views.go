// Package views: what a level sees of the cells that are there for it.
package views

import (
	"veil/api"
	"veil/row"
	"veil/spans"
)

// Place: a place of a view: its byte (api.Mask, if it is a mask), and the
// numbers in the row of its first and its last cell.
type Place struct {
	Char        byte
	First, Last int
}

// Of gives the places of the view of these cells, in which words and numbers
// that match one of the patterns are hidden.
func Of(seen []row.Seen, against []string) []Place {
	text := textOf(seen)
	struck := strike(text, against)
	return join(seen, struck)
}

// Text gives a view as a text.
func Text(places []Place) string {
	var text []byte
	for _, p := range places {
		text = append(text, p.Char)
	}
	return string(text)
}

func textOf(seen []row.Seen) string {
	var text []byte
	for _, s := range seen {
		text = append(text, s.Char)
	}
	return string(text)
}

// strike gives the text with a mask in place of each byte that is hidden.
func strike(text string, against []string) string {
	struck := []byte(text)
	for _, pattern := range against {
		for _, s := range spans.Find(text, pattern) {
			for i := s.From; i < s.To && i < len(struck); i++ {
				struck[i] = api.Mask
			}
		}
	}
	return string(struck)
}

// join makes one place of the masks that stand side by side. The text has a
// byte for each cell.
func join(seen []row.Seen, text string) []Place {
	var places []Place
	for i := 0; i < len(seen) && i < len(text); i++ {
		before := len(places) - 1
		if before >= 0 && places[before].Char == api.Mask && text[i] == api.Mask {
			places[before].Last = seen[i].At
		} else {
			places = append(places, Place{Char: text[i], First: seen[i].At, Last: seen[i].At})
		}
	}
	return places
}
