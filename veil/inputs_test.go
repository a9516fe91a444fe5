package veil_test

import (
	"slices"
	"testing"

	"veil/api"
	"veil/veil"
)

// backing: the lists behind a configuration, with marks in their spare room.
type backing struct {
	edges  []api.Edge
	rules  []api.Rule
	grants []api.Grant
}

func backingOf(c api.Config) backing {
	return backing{
		append(slices.Clone(c.Edges), api.Edge{Low: 91, High: 92}, api.Edge{Low: 93, High: 94}),
		append(slices.Clone(c.Rules), api.Rule{Pattern: "mark", Label: 95}, api.Rule{Pattern: "mark", Label: 96}),
		append(slices.Clone(c.Grants), api.Grant{From: 97, To: 98}, api.Grant{From: 99, To: 90}),
	}
}

// config gives the configuration with these lists, but for the marks.
func (b backing) config(labels int) api.Config {
	return api.Config{
		Labels: labels,
		Edges:  b.edges[:len(b.edges)-2],
		Rules:  b.rules[:len(b.rules)-2],
		Grants: b.grants[:len(b.grants)-2],
	}
}

func (b backing) equals(other backing) bool {
	return slices.Equal(b.edges, other.edges) && slices.Equal(b.rules, other.rules) && slices.Equal(b.grants, other.grants)
}

// spoil writes into all that a caller may write into behind a call.
func (b backing) spoil() {
	for i := range b.edges {
		b.edges[i] = api.Edge{Low: 1, High: 0}
	}
	for i := range b.rules {
		b.rules[i] = api.Rule{Pattern: "spoilt", Label: -1}
	}
	for i := range b.grants {
		b.grants[i] = api.Grant{From: 0, To: 3}
	}
}

type answers struct {
	check              api.Errno
	leq                bool
	leqE, joinE, meetE api.Errno
	join, meet         int
	matches            bool
	matchE             api.Errno
}

func ask(c api.Config) answers {
	var a answers
	a.check = veil.Check(c)
	a.leq, a.leqE = veil.Leq(c, 0, 3)
	a.join, a.joinE = veil.Join(c, 1, 2)
	a.meet, a.meetE = veil.Meet(c, 1, 3)
	a.matches, a.matchE = veil.Match("k?y", "key")
	return a
}

func TestNothingIsWrittenOrKept(t *testing.T) {
	for _, k := range []checkCase{
		{"a right one", diamond(), api.OK},
		{"wrong edges", labels(4, 0, 1, 1, 1), api.ErrLabels},
		{"a circle", labels(4, 0, 1, 1, 0), api.ErrOrder},
		{"no lattice", labels(4, 0, 1), api.ErrLattice},
		{"many edges", manyEdges(api.MaxEdges), api.OK},
		{"many rules", manyRules(api.MaxRules), api.OK},
		{"too many rules", manyRules(api.MaxRules + 1), api.ErrRules},
		{"many grants", manyGrants(api.MaxGrants), api.OK},
		{"a wrong grant", withGrants(api.Grant{From: 0, To: 1}), api.ErrGrants},
	} {
		b := backingOf(k.c)
		first := ask(b.config(k.c.Labels))
		if !b.equals(backingOf(k.c)) {
			t.Errorf("P2: %s: what was handed in was written into", k.name)
		}
		b.spoil()
		second := ask(k.c)
		if first != second || first.check != k.want {
			t.Errorf("P2: %s: the answers were %v, then %v, want the error %d", k.name, first, second, k.want)
		}
	}
}

// TestAnyNumbers: calls at the ends of the numbers and their neighbours end and do not panic.
func TestAnyNumbers(t *testing.T) {
	numbers := []int{least, least + 1, -7, -1, 0, 1, 5, 6, 7, 31, 1 << 32, greatest - 1, greatest}
	for _, n := range numbers {
		for _, m := range numbers {
			c := labels(n, m, n, n, m)
			c.Rules = []api.Rule{{Pattern: "a", Label: m}}
			c.Grants = []api.Grant{{From: n, To: m}}
			testNoOrderAtAll(t, c, n, m)
			right := diamond()
			right.Grants = []api.Grant{{From: n, To: m}}
			testNoOrderAtAll(t, right, n, m)
		}
	}
}

// testNoOrderAtAll asks that every other result is zero if there is an error, whichever it is.
func testNoOrderAtAll(t *testing.T, c api.Config, a int, b int) {
	t.Helper()
	want := veil.Check(c)
	if want == api.OK && (a < 0 || a >= c.Labels || b < 0 || b >= c.Labels) {
		want = api.ErrLevel
	}
	if want != api.OK {
		testNoOrder(t, "any numbers", c, a, b, want)
	}
}
