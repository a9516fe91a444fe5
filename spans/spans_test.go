package spans

import (
	"regexp"
	"slices"
	"testing"

	"veil/api"
)

var expressions = [...]struct {
	kind int
	text *regexp.Regexp
}{
	{api.Word, regexp.MustCompile("[a-z]+")},
	{api.Number, regexp.MustCompile("[0-9]+")},
	{api.Masked, regexp.MustCompile("#")},
	{api.Sign, regexp.MustCompile("[^a-z0-9# ]")},
}

// want finds the spans of each kind by a regular expression.
func want(text string) []api.Span {
	var l []api.Span
	for _, e := range expressions {
		for _, s := range e.text.FindAllStringIndex(text, -1) {
			l = append(l, api.Span{Kind: e.kind, From: s[0], To: s[1]})
		}
	}
	slices.SortFunc(l, func(a, b api.Span) int { return a.From - b.From })
	return l
}

// TestOf tries all texts of up to 5 bytes of all kinds, with the first and the last letter and digit and their neighbours.
func TestOf(t *testing.T) {
	for _, chars := range []string{"ab1# .", "az`{", "09/:"} {
		texts := []string{""}
		for range 5 {
			for _, text := range texts {
				for _, c := range chars {
					texts = append(texts, text+string(c))
				}
			}
			slices.Sort(texts)
			texts = slices.Compact(texts)
		}
		for _, text := range texts {
			if l := Of(text); !slices.Equal(l, want(text)) {
				t.Fatalf("P10: the spans of %q are %v, want %v", text, l, want(text))
			}
		}
	}
}

func TestFind(t *testing.T) {
	const text = "ab #12 a.a"
	ab, twelve, first, second := api.Span{Kind: api.Word, From: 0, To: 2}, api.Span{Kind: api.Number, From: 4, To: 6}, api.Span{Kind: api.Word, From: 7, To: 8}, api.Span{Kind: api.Word, From: 9, To: 10}
	for _, k := range []struct {
		pattern string
		want    []api.Span
	}{
		{"*", []api.Span{ab, twelve, first, second}},
		{"??", []api.Span{ab, twelve}},
		{"a*", []api.Span{ab, first, second}},
		{"?", []api.Span{first, second}},
		{"2", nil},
		{"#", nil},
		{"", nil},
	} {
		if l := Find(text, k.pattern); !slices.Equal(l, k.want) {
			t.Errorf("P10: Find(%q, %q) = %v, want %v", text, k.pattern, l, k.want)
		}
	}
}
