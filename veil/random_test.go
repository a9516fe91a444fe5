package veil_test

import (
	"fmt"
	"math/rand"
	"slices"
	"testing"

	"veil/api"
)

// somewhere gives mostly a place of 0 to n, and now and then one beside them.
func somewhere(r *rand.Rand, n int) int {
	if r.Intn(12) == 0 {
		return []int{-1, n + 1}[r.Intn(2)]
	}
	return r.Intn(n + 1)
}

// someLabel gives mostly one of n labels, and now and then a number beside them.
func someLabel(r *rand.Rand, n int) int {
	if r.Intn(12) == 0 {
		return []int{-1, n}[r.Intn(2)]
	}
	return r.Intn(n)
}

// someText gives a text of which rules strike many words; now and then it cannot be inserted.
func someText(r *rand.Rand) string {
	const chars = "kkkeeeyyya1199 .K"
	text := make([]byte, r.Intn(7))
	for i := range text {
		text[i] = chars[r.Intn(len(chars))]
	}
	if r.Intn(40) == 0 {
		text = append(text, "#\n\x7f\x80"[r.Intn(4)])
	}
	return string(text)
}

// grants makes grants of pairs of From and To.
func grants(n ...int) []api.Grant {
	var l []api.Grant
	for i := 0; i+1 < len(n); i += 2 {
		l = append(l, api.Grant{From: n[i], To: n[i+1]})
	}
	return l
}

// documents: configurations of different orders, with rules of several labels and grants over one step and over several.
func documents() []api.Config {
	few := []api.Rule{{Pattern: "k?y", Label: 3}, {Pattern: "1*", Label: 1}, {Pattern: "*9*9*", Label: 2}}
	many := []api.Rule{{Pattern: "k*", Label: 1}, {Pattern: "??", Label: 0}, {Pattern: "*y", Label: 2}, {Pattern: "1", Label: 1}, {Pattern: "*1*", Label: 2}}
	wide := withRules(few...)
	wide.Grants = grants(3, 2, 3, 0, 1, 0, 2, 0)
	plain := withRules()
	plain.Grants = grants(3, 2, 3, 1, 3, 0, 1, 0)
	chain := labels(3, 0, 1, 1, 2)
	chain.Rules = many
	chain.Grants = grants(2, 1, 2, 0, 1, 0)
	turned := labels(6, 5, 4, 5, 3, 4, 2, 3, 2, 2, 0, 0, 1)
	turned.Rules = many
	turned.Grants = grants(1, 5, 1, 0, 0, 2, 2, 4, 2, 5, 3, 5, 4, 5)
	one := labels(1)
	one.Rules = []api.Rule{{Pattern: "*", Label: 0}}
	return []api.Config{diamond(), wide, plain, chain, turned, one}
}

// call: one that changes a document. The kind is that of its notice.
type call struct {
	kind, level, from, to int
	text                  string
	label                 int // or the target
}

func (k call) String() string {
	switch k.kind {
	case api.Inserted:
		return fmt.Sprintf("P7: Insert(%d, %d, %q)", k.level, k.from, k.text)
	case api.Deleted:
		return fmt.Sprintf("P8: Delete(%d, %d, %d)", k.level, k.from, k.to)
	case api.Raised:
		return fmt.Sprintf("P12: Raise(%d, %d, %d, %d)", k.level, k.from, k.to, k.label)
	}
	return fmt.Sprintf("P13: Release(%d, %d, %d, %d)", k.level, k.from, k.to, k.label)
}

func (k call) do(d doc) api.Errno {
	switch k.kind {
	case api.Inserted:
		return d.Insert(k.level, k.from, k.text)
	case api.Deleted:
		return d.Delete(k.level, k.from, k.to)
	case api.Raised:
		return d.Raise(k.level, k.from, k.to, k.label)
	}
	return d.Release(k.level, k.from, k.to, k.label)
}

func (k call) doModel(m *model) api.Errno {
	switch k.kind {
	case api.Inserted:
		return m.insert(k.level, k.from, k.text)
	case api.Deleted:
		return m.delete(k.level, k.from, k.to)
	case api.Raised:
		return m.raise(k.level, k.from, k.to, k.label)
	}
	return m.release(k.level, k.from, k.to, k.label)
}

// someCall gives a call that is mostly right, of a level's view as it is now.
func someCall(r *rand.Rand, c api.Config, d doc) call {
	kinds := []int{api.Inserted, api.Inserted, api.Inserted, api.Inserted, api.Deleted, api.Raised, api.Raised, api.Released, api.Released}
	k := call{kind: kinds[r.Intn(len(kinds))], level: someLabel(r, c.Labels), label: someLabel(r, c.Labels)}
	if k.kind == api.Released && len(c.Grants) > 0 && r.Intn(8) > 0 {
		g := c.Grants[r.Intn(len(c.Grants))]
		k.level, k.label = g.From, g.To
	}
	v, _ := d.View(k.level)
	k.text = someText(r)
	k.from = somewhere(r, len(v))
	k.to = k.from + somewhere(r, 3)
	if r.Intn(4) > 0 {
		k.to = min(k.to, len(v))
	}
	return k
}

// TestRandomCalls compares a document with DOC.md's words, call by call.
func TestRandomCalls(t *testing.T) {
	answered := map[int][]api.Errno{}
	for i, c := range documents() {
		for seed := range 8 {
			r := rand.New(rand.NewSource(int64(100*i + seed)))
			d := open(t, c)
			m := newModel(c)
			for range 200 {
				k := someCall(r, c, d)
				e := testRandomCall(t, r, d, m, k)
				answered[k.kind] = append(answered[k.kind], e)
			}
		}
	}
	hadAll(t, answered[api.Inserted], api.OK, api.ErrLevel, api.ErrAt, api.ErrText, api.ErrQuota)
	hadAll(t, answered[api.Deleted], api.OK, api.ErrLevel, api.ErrAt)
	hadAll(t, answered[api.Raised], api.OK, api.ErrLevel, api.ErrAt)
	hadAll(t, answered[api.Released], api.OK, api.ErrLevel, api.ErrGrant, api.ErrAt, api.ErrMask, api.ErrOrigin, api.ErrLog)
}

func testRandomCall(t *testing.T, r *rand.Rand, d doc, m *model, k call) api.Errno {
	t.Helper()
	want := k.doModel(m)
	if e := k.do(d); e != want {
		t.Fatalf("%v = %d, want %d", k, e, want)
	}
	patterns := []string{"*", "?", "k*", "*1*", "e?", "y"}
	m.testSame(t, d, patterns[r.Intn(len(patterns))])
	if r.Intn(2) == 0 {
		m.testPoll(t, d, r.Intn(m.c.Labels))
	}
	return want
}

// hadAll asks that random calls came upon each of these answers.
func hadAll(t *testing.T, had []api.Errno, want ...api.Errno) {
	t.Helper()
	for _, e := range want {
		if !slices.Contains(had, e) {
			t.Errorf("no random call was answered %d", e)
		}
	}
}

// TestVeil (P16): a document that knows just the levels that are at most c tells them what one tells them at which all levels work.
func TestVeil(t *testing.T) {
	for i, c := range documents() {
		for top := range c.Labels {
			for seed := range 6 {
				r := rand.New(rand.NewSource(int64(1000*i + 10*top + seed)))
				testVeil(t, r, c, top)
			}
		}
	}
}

func testVeil(t *testing.T, r *rand.Rand, c api.Config, top int) {
	t.Helper()
	m := newModel(c)
	isBelow := func(a int) bool { return m.isLabel(a) && m.leq[a][top] }
	all, below := open(t, c), open(t, c)
	for range 100 {
		k := someCall(r, c, all)
		if !isBelow(k.level) {
			if k.kind != api.Released || !isBelow(k.label) {
				k.do(all)
			}
		} else if e, f := k.do(all), k.do(below); e != f {
			t.Fatalf("P16: %v = %d beside the others, %d without them", k, e, f)
		}
		asker := r.Intn(2 * c.Labels) // polls, if it is a level
		for level := range c.Labels {
			if isBelow(level) && !sameTold(tell(all, level), tell(below, level)) {
				t.Fatalf("P16: %v: %d is told %v beside the others, %v without them", k, level, tell(all, level), tell(below, level))
			}
			if level == asker {
				testVeiledPoll(t, all, below, level, isBelow(level))
			}
		}
	}
}

// testVeiledPoll polls in both documents, or if the level is left out in the second, just in the first.
func testVeiledPoll(t *testing.T, all doc, below doc, level int, isBelow bool) {
	t.Helper()
	l, _ := all.Poll(level)
	if !isBelow {
		return
	}
	if k, _ := below.Poll(level); !slices.Equal(l, k) {
		t.Fatalf("P16: Poll(%d) = %v beside the others, %v without them", level, l, k)
	}
}
