package api

import "testing"

// TestNumbers: callers may hang on the numbers that the document gives.
func TestNumbers(t *testing.T) {
	errors := []Errno{OK, ErrLabels, ErrOrder, ErrLattice, ErrRules, ErrGrants, ErrLevel, ErrAt, ErrText, ErrQuota, ErrGrant, ErrMask, ErrOrigin, ErrLog}
	for i, e := range errors {
		if int(e) != i {
			t.Errorf("error %d has the number %d", i, e)
		}
	}
	bounds := [...]int{MaxLabels, MaxEdges, MaxRules, MaxWord, MaxGrants, MaxInsert, MaxCells, MaxLog, MaxNotices, Mask}
	if bounds != [...]int{6, 30, 8, 12, 30, 40, 200, 8, 4, '#'} {
		t.Errorf("the bounds are %v", bounds)
	}
}
