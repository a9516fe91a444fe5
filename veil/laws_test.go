package veil_test

import (
	"math/rand"
	"slices"
	"strings"
	"testing"

	"veil/api"
)

// someCalls makes random calls in documents of all orders, and hands each of them to a test before it is made.
func someCalls(t *testing.T, rules bool, test func(*testing.T, api.Config, doc, call)) {
	for i, c := range documents() {
		if !rules {
			c.Rules = nil
		}
		for seed := range 6 {
			r := rand.New(rand.NewSource(int64(7000 + 100*i + seed)))
			d := open(t, c)
			for range 150 {
				test(t, c, d, someCall(r, c, d))
			}
		}
	}
}

// views gives the views of all levels.
func views(c api.Config, d doc) []string {
	var l []string
	for level := range c.Labels {
		v, _ := d.View(level)
		l = append(l, v)
	}
	return l
}

func shown(view string) string { return strings.ReplaceAll(view, "#", "") }

// isLess tells whether a text is another less some of its bytes, or none.
func isLess(a string, b string) bool {
	for i := range len(b) {
		if a != "" && a[0] == b[i] {
			a = a[1:]
		}
	}
	return a == ""
}

// isWithText tells whether a text is another with a third in one place.
func isWithText(a string, b string, text string) bool {
	for at := range len(b) + 1 {
		if a == b[:at]+text+b[at:] {
			return true
		}
	}
	return false
}

// TestShownAgainByRelease (P17).
func TestShownAgainByRelease(t *testing.T) {
	more := 0
	someCalls(t, false, func(t *testing.T, c api.Config, d doc, k call) {
		before := views(c, d)
		if k.do(d) != api.OK {
			return
		}
		for level, view := range views(c, d) {
			a, b := shown(view), shown(before[level])
			holds := false
			switch k.kind {
			case api.Inserted:
				holds = a == b || isWithText(a, b, k.text)
			case api.Released:
				holds = isLess(b, a)
				more += len(a) - len(b)
			default:
				holds = isLess(a, b)
			}
			if !holds {
				t.Fatalf("P17: %v: View(%d) was %q, then %q", k, level, before[level], view)
			}
		}
	})
	if more == 0 {
		t.Errorf("no random call released what was hidden")
	}
}

// TestInsertAndDelete (P18). Half of what is inserted is left, so that there is something to insert into.
func TestInsertAndDelete(t *testing.T) {
	done := 0
	someCalls(t, false, func(t *testing.T, c api.Config, d doc, k call) {
		before := views(c, d)
		if e := k.do(d); e != api.OK || k.kind != api.Inserted {
			return
		}
		old := before[k.level]
		want := old[:k.from] + k.text + old[k.from:]
		if v, _ := d.View(k.level); v != want {
			t.Fatalf("P18: %v: View(%d) was %q, then %q", k, k.level, old, v)
		}
		done++
		if done%2 == 0 {
			return
		}
		remove(t, d, k.level, k.from, k.from+len(k.text), api.OK)
		if after := views(c, d); !slices.Equal(before, after) {
			t.Fatalf("P18: %v, and these places deleted: the views were %q, then %q", k, before, after)
		}
	})
}

// TestLogsJustGrow (P19): also by what is polled, asked and refused.
func TestLogsJustGrow(t *testing.T) {
	someCalls(t, true, func(t *testing.T, c api.Config, d doc, k call) {
		before := tellAll(d)
		e := k.do(d)
		for level, b := range before {
			l := tell(d, level).log
			n := len(b.log)
			if e == api.OK && k.kind == api.Released && k.label == level {
				n++
			}
			if len(l) != n || !slices.Equal(l[:len(b.log)], b.log) {
				t.Fatalf("P19: %v = %d: Log(%d) was %v, then %v", k, e, level, b.log, l)
			}
		}
	})
}
