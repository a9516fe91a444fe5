package veil_test

import (
	"math/rand"
	"testing"

	"veil/api"
)

// somewhere gives mostly a place of 0 to n, and now and then one beside them.
func somewhere(r *rand.Rand, n int) int {
	return r.Intn(n+3) - 1
}

// someText gives a text of which rules strike many words; now and then it cannot be inserted.
func someText(r *rand.Rand) string {
	const chars = "kkkeeeyyya1199 .K"
	text := make([]byte, r.Intn(6))
	for i := range text {
		text[i] = chars[r.Intn(len(chars))]
	}
	if r.Intn(40) == 0 {
		text = append(text, "#\n\x7f\x80"[r.Intn(4)])
	}
	return string(text)
}

// documents: configurations of different orders, with rules of several labels.
func documents() []api.Config {
	few := []api.Rule{{Pattern: "k?y", Label: 3}, {Pattern: "1*", Label: 1}, {Pattern: "*9*9*", Label: 2}}
	many := []api.Rule{{Pattern: "k*", Label: 1}, {Pattern: "??", Label: 0}, {Pattern: "*y", Label: 2}, {Pattern: "1", Label: 1}, {Pattern: "*1*", Label: 2}}
	chain := labels(3, 0, 1, 1, 2)
	chain.Rules = many
	turned := labels(6, 5, 4, 5, 3, 4, 2, 3, 2, 2, 0, 0, 1)
	turned.Rules = many
	one := labels(1)
	one.Rules = []api.Rule{{Pattern: "*", Label: 0}}
	return []api.Config{diamond(), withRules(few...), withRules(), chain, turned, one}
}

// TestRandomCalls compares a document with DOC.md's words, call by call.
func TestRandomCalls(t *testing.T) {
	for i, c := range documents() {
		for seed := range 12 {
			r := rand.New(rand.NewSource(int64(100*i + seed)))
			d := open(t, c)
			m := newModel(c)
			for range 150 {
				testRandomCall(t, r, d, m)
			}
		}
	}
}

func testRandomCall(t *testing.T, r *rand.Rand, d doc, m *model) {
	t.Helper()
	level := somewhere(r, m.c.Labels-1)
	n := 0
	if m.isLabel(level) {
		n = len(m.places(level))
	}
	if r.Intn(5) < 3 {
		at := somewhere(r, n)
		text := someText(r)
		want := m.insert(level, at, text)
		if e := d.Insert(level, at, text); e != want {
			t.Fatalf("P7: Insert(%d, %d, %q) = %d, want %d", level, at, text, e, want)
		}
	} else {
		from := somewhere(r, n)
		to := from + somewhere(r, 3)
		want := m.delete(level, from, to)
		if e := d.Delete(level, from, to); e != want {
			t.Fatalf("P8: Delete(%d, %d, %d) = %d, want %d", level, from, to, e, want)
		}
	}
	patterns := []string{"*", "?", "k*", "*1*", "e?", "y"}
	m.testSame(t, d, patterns[r.Intn(len(patterns))])
}
