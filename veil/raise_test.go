package veil_test

import (
	"testing"

	"veil/api"
)

func raise(t *testing.T, d doc, level int, from int, to int, label int, want api.Errno) {
	t.Helper()
	if e := d.Raise(level, from, to, label); e != want {
		t.Errorf("P12: Raise(%d, %d, %d, %d) = %d, want %d", level, from, to, label, e, want)
	}
}

// plain: the diamond without rules, with a grant for each step down and from 3 to 0.
func plain() api.Config {
	c := withRules()
	c.Grants = grants(3, 2, 3, 1, 3, 0, 2, 0, 1, 0)
	return c
}

func TestRaiseCountsAbove(t *testing.T) {
	d := oneText(t, plain(), "abcd")
	raise(t, d, 3, 0, 1, 3, api.OK) // 3 sees it, and for the others it does not count
	see(t, d, "abcd", "abcd", "abcd", "abcd")
	raise(t, d, 1, 1, 2, 2, api.OK)
	see(t, d, "abcd", "a#cd", "abcd", "abcd")
	raise(t, d, 2, 2, 3, 3, api.OK)
	see(t, d, "abcd", "a#cd", "ab#d", "abcd")
	raise(t, d, 0, 3, 4, 1, api.OK)
	see(t, d, "abc#", "a#cd", "ab#", "abcd")
}

// TestRaiseToTheJoin: raised to 1 and to 2, it is of label 3, for those for which both count.
func TestRaiseToTheJoin(t *testing.T) {
	d := oneText(t, plain(), "ab.")
	raise(t, d, 0, 0, 1, 1, api.OK)
	see(t, d, "#b.", "ab.", "#b.", "ab.")
	raise(t, d, 0, 0, 1, 2, api.OK)
	see(t, d, "#b.", "#b.", "#b.", "ab.")
	raise(t, d, 1, 1, 2, 1, api.OK)
	raise(t, d, 2, 1, 2, 2, api.OK)
	see(t, d, "#b.", "#b.", "#b.", "ab.")
	insert(t, d, 1, 3, "x", api.OK)
	raise(t, d, 1, 3, 4, 2, api.OK) // its origin counts in the join
	see(t, d, "#b.", "#b.#", "#b.", "ab.x")
}

func TestRaiseDoesNotLower(t *testing.T) {
	d := oneText(t, plain(), "ab")
	raise(t, d, 0, 0, 1, 3, api.OK)
	raise(t, d, 0, 0, 1, 0, api.OK)
	raise(t, d, 0, 0, 2, 0, api.OK)
	raise(t, d, 3, 0, 2, 0, api.OK)
	see(t, d, "#b", "#b", "#b", "ab")
	insert(t, d, 1, 2, "C", api.OK)
	raise(t, d, 1, 2, 3, 0, api.OK)
	see(t, d, "#b", "#bC", "#b", "abC")
}

// TestRaiseUpsideDown: 3 is below 1 and 2, which are below 0.
func TestRaiseUpsideDown(t *testing.T) {
	c := labels(4, 3, 1, 3, 2, 1, 0, 2, 0)
	c.Grants = grants(0, 3)
	d := open(t, c)
	insert(t, d, 3, 0, "abc", api.OK)
	see(t, d, "abc", "abc", "abc", "abc")
	raise(t, d, 3, 0, 1, 3, api.OK)
	raise(t, d, 3, 1, 2, 2, api.OK)
	raise(t, d, 3, 2, 3, 0, api.OK)
	see(t, d, "abc", "a#", "ab#", "a#")
	release(t, d, 0, 0, 3, 3, api.OK)
	see(t, d, "abc", "abc", "abc", "abc")
	raise(t, d, 3, 0, 3, 1, api.OK)
	see(t, d, "abc", "abc", "#", "#")
}

func TestRaiseAMask(t *testing.T) {
	d := oneText(t, diamond(), "a key.")
	raise(t, d, 0, 2, 3, 1, api.OK) // all cells of what the rule strikes
	remove(t, d, 3, 3, 4, api.OK)   // for 3, nothing strikes ky
	see(t, d, "a #.", "a #.", "a #.", "a ky.")
	raise(t, d, 1, 0, 1, 3, api.OK)
	raise(t, d, 1, 1, 2, 3, api.OK)
	see(t, d, "a #.", "#.", "a #.", "a ky.")
	raise(t, d, 1, 0, 1, 2, api.OK)
	remove(t, d, 1, 0, 1, api.OK)
	see(t, d, "a #.", ".", "a #.", ".")
}

// TestRaiseAMaskOfALabel: the cells of the mask are of label 2, and of label 3 behind the raising to 1.
func TestRaiseAMaskOfALabel(t *testing.T) {
	d := oneText(t, plain(), "abc")
	raise(t, d, 0, 0, 2, 2, api.OK)
	see(t, d, "#c", "#c", "abc", "abc")
	raise(t, d, 0, 0, 1, 1, api.OK)
	see(t, d, "#c", "#c", "#c", "abc")
}

// TestRaiseLeavesTheUnseen: cells between those that a level raises, but that are not there for it, stay as they are.
func TestRaiseLeavesTheUnseen(t *testing.T) {
	d := oneText(t, plain(), "AC")
	insert(t, d, 1, 1, "B", api.OK)
	insert(t, d, 2, 1, "Z", api.OK)
	raise(t, d, 0, 0, 2, 3, api.OK)
	see(t, d, "#", "#B#", "#Z#", "AZBC")
	raise(t, d, 0, 0, 1, 3, api.OK)
	see(t, d, "#", "#B#", "#Z#", "AZBC")
}

// TestHiddenPartsWords: no word goes over a hidden cell, and no pattern matches the mask.
func TestHiddenPartsWords(t *testing.T) {
	d := oneText(t, withRules(api.Rule{Pattern: "k?y", Label: 3}, api.Rule{Pattern: "ky", Label: 3}), "key")
	see(t, d, "#", "#", "#", "key")
	d = oneText(t, diamond(), "kxy kxey")
	see(t, d, "# kxey", "# kxey", "# kxey", "kxy kxey")
	raise(t, d, 0, 3, 4, 2, api.OK)
	see(t, d, "# k#ey", "# k#ey", "# kxey", "kxy kxey")
	raise(t, d, 1, 2, 3, 3, api.OK)
	see(t, d, "# k#ey", "# #ey", "# kxey", "kxy kxey")
	insert(t, d, 0, 4, "k", api.OK) // behind the hidden x there stands a word that is struck
	see(t, d, "# k#", "# #", "# kxkey", "kxy kxkey")
	spansAre(t, d, 0, span(api.Masked, 0, 1), span(api.Word, 2, 3), span(api.Masked, 3, 4))
	find(t, d, 0, "*", span(api.Word, 2, 3))
	find(t, d, 2, "*", span(api.Word, 2, 7))
}

// TestMasksAreOne: cells that their label hides and cells that a rule strikes are one mask, if they stand side by side.
func TestMasksAreOne(t *testing.T) {
	d := oneText(t, diamond(), "A key!")
	raise(t, d, 0, 0, 2, 3, api.OK)
	see(t, d, "#!", "#!", "#!", "A key!")
	insert(t, d, 0, 1, "?", api.OK) // behind the y
	see(t, d, "#?!", "#?!", "#?!", "A key?!")
	insert(t, d, 3, 1, "B", api.OK)
	remove(t, d, 1, 0, 1, api.OK)
	see(t, d, "#?!", "?!", "#?!", "B?!")
}

// TestInsertIntoAMask: a level that sees more inserts where another has a mask.
func TestInsertIntoAMask(t *testing.T) {
	d := oneText(t, plain(), "abc")
	raise(t, d, 1, 0, 3, 3, api.OK)
	see(t, d, "abc", "#", "abc", "abc")
	insert(t, d, 0, 1, "-", api.OK)
	see(t, d, "a-bc", "#-#", "a-bc", "a-bc")
	remove(t, d, 0, 1, 2, api.OK)
	see(t, d, "abc", "#", "abc", "abc")
	insert(t, d, 1, 1, "x", api.OK)
	insert(t, d, 1, 0, "y", api.OK)
	see(t, d, "abc", "y#x", "abc", "yabcx")
	left(t, d, 0, api.MaxCells-4)
	left(t, d, 1, api.MaxCells-2)
}

func TestRaiseRefused(t *testing.T) {
	d := written(t)
	before := tellAll(d)
	for _, wrong := range noLevels {
		raise(t, d, wrong, 0, 1, 0, api.ErrLevel)
		raise(t, d, 0, 0, 1, wrong, api.ErrLevel)
		raise(t, d, wrong, 0, 1, wrong, api.ErrLevel)
		raise(t, d, 0, 1, 1, wrong, api.ErrLevel)
		raise(t, d, wrong, -1, 9, 0, api.ErrLevel)
	}
	for _, k := range noPieces {
		raise(t, d, 0, k[0], k[1], 3, api.ErrAt)
	}
	raise(t, d, 3, 0, 9, 3, api.ErrAt)
	empty := open(t, diamond())
	raise(t, empty, 0, 0, 0, 3, api.ErrAt)
	raise(t, empty, 0, 0, 1, 3, api.ErrAt)
	unchanged(t, d, before)
	raise(t, d, 0, 4, 5, 3, api.OK)
	raise(t, d, 3, 7, 8, 3, api.OK)
	see(t, d, "ab #", "ab #", "ab #", "Xab key.")
}
