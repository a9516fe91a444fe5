// Package spans: of which words, numbers, masks and signs a text is.
package spans

import (
	"veil/api"
	"veil/patterns"
)

// blank: the kind of what is in no span.
const blank = 0

// Of gives the spans of a text in which masks are the byte api.Mask.
func Of(text string) []api.Span {
	var l []api.Span
	from := 0
	for from < len(text) {
		kind := kindOf(text[from])
		to := endOf(text, from, kind)
		if kind != blank {
			l = append(l, api.Span{Kind: kind, From: from, To: to})
		}
		from = to
	}
	return l
}

// Find gives the words and numbers of a text that match a pattern.
func Find(text string, pattern string) []api.Span {
	all := Of(text)
	var l []api.Span
	for _, s := range all {
		if isLong(s.Kind) && patterns.Matches(pattern, text[s.From:s.To]) {
			l = append(l, s)
		}
	}
	return l
}

func kindOf(b byte) int {
	switch {
	case b >= 'a' && b <= 'z':
		return api.Word
	case b >= '0' && b <= '9':
		return api.Number
	case b == api.Mask:
		return api.Masked
	case b == ' ':
		return blank
	}
	return api.Sign
}

// isLong tells whether spans of this kind go on as long as the bytes are of the
// same kind. The others are of one byte.
func isLong(kind int) bool {
	return kind == api.Word || kind == api.Number
}

// endOf gives the number of the byte behind the span of this kind that begins
// at from.
func endOf(text string, from int, kind int) int {
	to := from + 1
	for isLong(kind) && to < len(text) && kindOf(text[to]) == kind {
		to++
	}
	return to
}
