package config

import (
	"testing"

	"veil/api"
	"veil/order"
)

func chain() api.Config {
	return api.Config{
		Labels: 3,
		Edges:  []api.Edge{{Low: 2, High: 0}, {Low: 0, High: 1}},
		Rules:  []api.Rule{{Pattern: "a*", Label: 1}},
		Grants: []api.Grant{{From: 1, To: 2}},
	}
}

func TestRightConfig(t *testing.T) {
	c := chain()
	o, e := Check(c)
	want, _ := order.New(c.Labels, c.Edges)
	if e != api.OK || o != want || !o.Leq(2, 1) || o.Leq(1, 2) {
		t.Errorf("Check = %v, %d", o, e)
	}
}

func TestWrongConfigHasNoOrder(t *testing.T) {
	wrongLabels, wrongRules, wrongGrants := chain(), chain(), chain()
	wrongLabels.Labels = 2
	wrongRules.Rules[0].Pattern = "a+"
	wrongGrants.Grants[0].To = 1
	for _, k := range []struct {
		c    api.Config
		want api.Errno
	}{{wrongLabels, api.ErrLabels}, {wrongRules, api.ErrRules}, {wrongGrants, api.ErrGrants}} {
		o, e := Check(k.c)
		if e != k.want || o != (order.Order{}) {
			t.Errorf("Check = %v, %d, want the error %d", o, e, k.want)
		}
	}
}
