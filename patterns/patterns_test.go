package patterns

import "testing"

// texts lists all texts of up to n of these bytes.
func texts(bytes string, n int) []string {
	all := []string{""}
	last := all
	for range n {
		var longer []string
		for _, text := range last {
			for i := range len(bytes) {
				longer = append(longer, text+bytes[i:i+1])
			}
		}
		all = append(all, longer...)
		last = longer
	}
	return all
}

// canBeCut tries each length of the first piece, by the words of the document.
func canBeCut(pattern string, text string) bool {
	if pattern == "" {
		return text == ""
	}
	for n := 0; n <= len(text); n++ {
		isPiece := pattern[0] == '*' || n == 1 && (pattern[0] == '?' || pattern[0] == text[0])
		if isPiece && canBeCut(pattern[1:], text[n:]) {
			return true
		}
	}
	return false
}

func TestAllShort(t *testing.T) {
	tried := texts("a0*?", 5)
	for _, pattern := range texts("a0?*", 4)[1:] {
		for _, text := range tried {
			if Matches(pattern, text) != canBeCut(pattern, text) {
				t.Fatalf("Matches(%q, %q) = %v", pattern, text, Matches(pattern, text))
			}
		}
	}
}

func TestNoPatternIsMatchedByNone(t *testing.T) {
	for _, pattern := range []string{"", "A", "a ", "aaaaaaaaaaaaa", "*************"} {
		if Valid(pattern) || Matches(pattern, pattern) {
			t.Errorf("%q is taken for a pattern", pattern)
		}
	}
}
