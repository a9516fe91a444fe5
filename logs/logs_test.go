package logs

import (
	"slices"
	"testing"

	"veil/api"
)

func TestLogs(t *testing.T) {
	var l Logs
	for i := range api.MaxLog {
		if l.IsFull(5) {
			t.Fatalf("a log of %d entries is full", i)
		}
		l.Add(5, api.Record{By: i, Cells: 2 * i, Version: 3 * i})
	}
	old := l.Of(5)
	l.Add(5, api.Record{By: 9})
	if !l.IsFull(5) || l.IsFull(0) {
		t.Errorf("IsFull: of the full log %t, of the empty one %t", l.IsFull(5), l.IsFull(0))
	}
	if len(l.Of(5)) != api.MaxLog || !slices.Equal(l.Of(5), old) {
		t.Errorf("the full log was %v, then %v", old, l.Of(5))
	}
	for i, r := range old {
		if r != (api.Record{By: i, Cells: 2 * i, Version: 3 * i}) {
			t.Errorf("the entry %d is %v", i, r)
		}
	}
	if len(l.Of(0)) != 0 {
		t.Errorf("Of(0) = %v", l.Of(0))
	}
}

func TestFreshLists(t *testing.T) {
	var l Logs
	for i := range api.MaxLog {
		l.Add(1, api.Record{By: i})
		list := l.Of(1)
		list = list[:cap(list)]
		for k := range list {
			list[k] = api.Record{By: 9}
		}
		for k, r := range l.Of(1) {
			if r.By != k {
				t.Errorf("the entry %d of %d is %v", k, i+1, r)
			}
		}
	}
}

// TestNoLevels: what can be no level has no log, and no room for an entry.
func TestNoLevels(t *testing.T) {
	var l Logs
	for _, level := range []int{-1, api.MaxLabels, 1 << 40} {
		l.Add(level, api.Record{By: 1})
		if !l.IsFull(level) || l.Of(level) != nil {
			t.Errorf("of %d: IsFull = %t, Of = %v", level, l.IsFull(level), l.Of(level))
		}
	}
}
