package veil_test

import (
	"strconv"
	"strings"
	"testing"

	"veil/api"
	"veil/veil"
)

// edges makes edges of pairs of Low and High.
func edges(n ...int) []api.Edge {
	var l []api.Edge
	for i := 0; i+1 < len(n); i += 2 {
		l = append(l, api.Edge{Low: n[i], High: n[i+1]})
	}
	return l
}

// labels makes a configuration without rules and grants.
func labels(n int, e ...int) api.Config {
	return api.Config{Labels: n, Edges: edges(e...)}
}

// diamond: 0 is below 1 and 2, which are below 3.
func diamond() api.Config {
	c := labels(4, 0, 1, 0, 2, 1, 3, 2, 3)
	c.Rules = []api.Rule{{Pattern: "k?y", Label: 3}}
	c.Grants = []api.Grant{{From: 3, To: 1}}
	return c
}

func withRules(rules ...api.Rule) api.Config {
	c := diamond()
	c.Rules = rules
	return c
}

func withGrants(grants ...api.Grant) api.Config {
	c := diamond()
	c.Grants = grants
	return c
}

// manyEdges names the one edge of two labels n times.
func manyEdges(n int) api.Config {
	c := labels(2)
	for range n {
		c.Edges = append(c.Edges, api.Edge{Low: 0, High: 1})
	}
	return c
}

// manyRules has n rules, all of them right but for their number.
func manyRules(n int) api.Config {
	c := withRules()
	for i := range n {
		c.Rules = append(c.Rules, api.Rule{Pattern: "r" + strconv.Itoa(i), Label: i % 4})
	}
	return c
}

// manyGrants has n grants, all of them right but for their number.
func manyGrants(n int) api.Config {
	c := withGrants()
	for range n {
		c.Grants = append(c.Grants, api.Grant{From: 3, To: 0})
	}
	return c
}

type checkCase struct {
	name string
	c    api.Config
	want api.Errno
}

func testCheck(t *testing.T, cases []checkCase) {
	for _, k := range cases {
		if e := veil.Check(k.c); e != k.want {
			t.Errorf("P3: %s: Check = %d, want %d", k.name, e, k.want)
		}
	}
}

const (
	greatest = int(^uint(0) >> 1)
	least    = -greatest - 1
)

func TestCheckLabels(t *testing.T) {
	testCheck(t, []checkCase{
		{"nothing at all", api.Config{}, api.ErrLabels},
		{"one label", labels(1), api.OK},
		{"two labels", labels(2, 1, 0), api.OK},
		{"MaxLabels labels", labels(6, 0, 1, 1, 2, 2, 3, 3, 4, 4, 5), api.OK},
		{"a label too many", labels(7, 0, 1, 1, 2, 2, 3, 3, 4, 4, 5, 5, 6), api.ErrLabels},
		{"less than no label", labels(-1), api.ErrLabels},
		{"the greatest number of labels", labels(greatest), api.ErrLabels},
		{"the least number of labels", labels(least), api.ErrLabels},
		{"MaxEdges edges", manyEdges(api.MaxEdges), api.OK},
		{"an edge too many", manyEdges(api.MaxEdges + 1), api.ErrLabels},
		{"very many edges", manyEdges(100000), api.ErrLabels},
		{"Low too great", labels(2, 0, 1, 2, 1), api.ErrLabels},
		{"High too great", labels(2, 0, 1, 0, 2), api.ErrLabels},
		{"Low too small", labels(2, 0, 1, -1, 1), api.ErrLabels},
		{"High too small", labels(2, 0, 1, 0, -1), api.ErrLabels},
		{"a label within MaxLabels, but not there", labels(2, 0, 1, 0, 5), api.ErrLabels},
		{"the greatest Low", labels(2, greatest, 1), api.ErrLabels},
		{"the least High", labels(2, 0, least), api.ErrLabels},
		{"an edge from a label to itself", labels(2, 0, 1, 1, 1), api.ErrLabels},
		{"an edge of the only label to itself", labels(1, 0, 0), api.ErrLabels},
	})
}

func TestCheckOrder(t *testing.T) {
	testCheck(t, []checkCase{
		{"two labels below one another", labels(2, 0, 1, 1, 0), api.ErrOrder},
		{"the document's example", labels(4, 0, 1, 0, 2, 1, 3, 2, 3, 3, 0), api.ErrOrder},
		{"a circle of three", labels(3, 0, 1, 1, 2, 2, 0), api.ErrOrder},
		{"a circle of six", labels(6, 3, 1, 1, 5, 5, 0, 0, 4, 4, 2, 2, 3), api.ErrOrder},
		{"a circle above a label", labels(3, 0, 1, 1, 2, 2, 1), api.ErrOrder},
		{"the same edge twice is no circle", labels(2, 0, 1, 0, 1), api.OK},
	})
}

func TestCheckLattice(t *testing.T) {
	testCheck(t, []checkCase{
		{"two labels and no edge", labels(2), api.ErrLattice},
		{"no join", labels(3, 0, 1, 0, 2), api.ErrLattice},
		{"no meet", labels(3, 1, 0, 2, 0), api.ErrLattice},
		{"the document's example", labels(4, 0, 1, 0, 2, 1, 3), api.ErrLattice},
		{"several upper labels, none the least", labels(6, 0, 1, 0, 2, 1, 3, 1, 4, 2, 3, 2, 4, 3, 5, 4, 5), api.ErrLattice},
		{"a label that stands alone", labels(3, 0, 1), api.ErrLattice},
		{"the diamond", diamond(), api.OK},
		{"the diamond with an edge over two steps", labels(4, 0, 1, 0, 2, 1, 3, 2, 3, 0, 3), api.OK},
		{"three side by side", labels(5, 0, 1, 0, 2, 0, 3, 1, 4, 2, 4, 3, 4), api.OK},
		{"two beside one", labels(5, 0, 1, 1, 2, 2, 4, 0, 3, 3, 4), api.OK},
		{"upside down", labels(4, 3, 1, 3, 2, 1, 0, 2, 0), api.OK},
	})
}

func TestCheckRules(t *testing.T) {
	rule := func(pattern string, label int) api.Config {
		return withRules(api.Rule{Pattern: pattern, Label: label})
	}
	testCheck(t, []checkCase{
		{"no rule", withRules(), api.OK},
		{"MaxRules rules", manyRules(api.MaxRules), api.OK},
		{"a rule too many", manyRules(api.MaxRules + 1), api.ErrRules},
		{"very many rules", manyRules(100000), api.ErrRules},
		{"a pattern of all kinds", rule("az09?*", 0), api.OK},
		{"the empty pattern", rule("", 0), api.ErrRules},
		{"a pattern of MaxWord bytes", rule(strings.Repeat("?", api.MaxWord), 0), api.OK},
		{"a pattern of a byte too many", rule(strings.Repeat("?", api.MaxWord+1), 0), api.ErrRules},
		{"a great letter", rule("kEy", 0), api.ErrRules},
		{"a blank", rule("a b", 0), api.ErrRules},
		{"a mask", rule("a#", 0), api.ErrRules},
		{"the least label", rule("a", 0), api.OK},
		{"the greatest label", rule("a", 3), api.OK},
		{"a label too great", rule("a", 4), api.ErrRules},
		{"a label too small", rule("a", -1), api.ErrRules},
		{"the greatest number as a label", rule("a", greatest), api.ErrRules},
		{"the least number as a label", rule("a", least), api.ErrRules},
		{"a pattern twice", withRules(api.Rule{Pattern: "a", Label: 1}, api.Rule{Pattern: "a", Label: 1}), api.ErrRules},
		{"a pattern twice, of two labels", withRules(api.Rule{Pattern: "a", Label: 1}, api.Rule{Pattern: "b", Label: 1}, api.Rule{Pattern: "a", Label: 2}), api.ErrRules},
		{"two patterns that the same texts match", withRules(api.Rule{Pattern: "*", Label: 1}, api.Rule{Pattern: "**", Label: 1}), api.OK},
		{"a wrong rule behind a right one", withRules(api.Rule{Pattern: "a", Label: 1}, api.Rule{Pattern: "b", Label: 4}), api.ErrRules},
	})
}

func TestCheckGrants(t *testing.T) {
	grant := func(from int, to int) api.Config {
		return withGrants(api.Grant{From: from, To: to})
	}
	testCheck(t, []checkCase{
		{"no grant", withGrants(), api.OK},
		{"MaxGrants grants, all the same", manyGrants(api.MaxGrants), api.OK},
		{"a grant too many", manyGrants(api.MaxGrants + 1), api.ErrGrants},
		{"very many grants", manyGrants(100000), api.ErrGrants},
		{"one step down", grant(3, 2), api.OK},
		{"two steps down", grant(3, 0), api.OK},
		{"to itself", grant(2, 2), api.ErrGrants},
		{"up", grant(1, 3), api.ErrGrants},
		{"aside", grant(1, 2), api.ErrGrants},
		{"From too great", grant(4, 0), api.ErrGrants},
		{"From too small", grant(-1, 0), api.ErrGrants},
		{"To too great", grant(3, 4), api.ErrGrants},
		{"To too small", grant(3, -1), api.ErrGrants},
		{"the greatest From and the least To", grant(greatest, least), api.ErrGrants},
		{"a wrong grant behind a right one", withGrants(api.Grant{From: 3, To: 1}, api.Grant{From: 1, To: 1}), api.ErrGrants},
	})
}

// TestCheckFirst mends one fault after the other, in the order of the errors.
func TestCheckFirst(t *testing.T) {
	c := labels(3, 0, 1, 1, 0, 2, 2)
	c.Rules = []api.Rule{{Pattern: "", Label: 9}}
	c.Grants = []api.Grant{{From: 0, To: 9}}
	wrongLabels := c
	c.Edges = edges(0, 1, 1, 0)
	wrongOrder := c
	c.Edges = edges(0, 1)
	wrongLattice := c
	c.Edges = edges(0, 1, 1, 2)
	wrongRules := c
	c.Rules = []api.Rule{{Pattern: "a", Label: 2}}
	wrongGrants := c
	c.Grants = []api.Grant{{From: 2, To: 0}}
	testCheck(t, []checkCase{
		{"all is wrong", wrongLabels, api.ErrLabels},
		{"all but the labels", wrongOrder, api.ErrOrder},
		{"all but the labels and the order", wrongLattice, api.ErrLattice},
		{"the rules and the grants", wrongRules, api.ErrRules},
		{"the grants", wrongGrants, api.ErrGrants},
		{"nothing", c, api.OK},
	})
}
