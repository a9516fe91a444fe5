package views

import (
	"slices"
	"testing"

	"veil/row"
)

// cells makes cells of a text that stand at every third number of the row.
func cells(text string) []row.Seen {
	var l []row.Seen
	for i := range len(text) {
		l = append(l, row.Seen{At: 3*i + 1, Char: text[i]})
	}
	return l
}

func TestOf(t *testing.T) {
	for _, k := range []struct {
		text    string
		against []string
		want    []Place
	}{
		{"", []string{"*"}, nil},
		{"a1", nil, []Place{{'a', 1, 1}, {'1', 4, 4}}},
		{"a", []string{"a"}, []Place{{'#', 1, 1}}},
		{"abc", []string{"b"}, []Place{{'a', 1, 1}, {'b', 4, 4}, {'c', 7, 7}}},
		{"a1.", []string{"a", "1"}, []Place{{'#', 1, 4}, {'.', 7, 7}}},
		{"ab.c", []string{"??", "?"}, []Place{{'#', 1, 4}, {'.', 7, 7}, {'#', 10, 10}}},
		{"ab", []string{"a*", "*b"}, []Place{{'#', 1, 4}}},
		{" ab", []string{"*b"}, []Place{{' ', 1, 1}, {'#', 4, 7}}},
		{"1a2", []string{"1", "2"}, []Place{{'#', 1, 1}, {'a', 4, 4}, {'#', 7, 7}}},
	} {
		if l := Of(cells(k.text), k.against); !slices.Equal(l, k.want) {
			t.Errorf("P9: the places of %q against %q are %v, want %v", k.text, k.against, l, k.want)
		}
	}
}

// marked gives cells of a text as cells does; those of which how has - are hidden, those of which it has + are free.
func marked(text string, how string) []row.Seen {
	l := cells(text)
	for i := range l {
		l[i].Hidden = how[i] == '-'
		l[i].Free = how[i] == '+'
	}
	return l
}

func TestHiddenAndFree(t *testing.T) {
	for _, k := range []struct {
		text, how string
		against   []string
		want      []Place
	}{
		{"abc", "-..", nil, []Place{{'#', 1, 1}, {'b', 4, 4}, {'c', 7, 7}}},
		{"a b", "---", nil, []Place{{'#', 1, 7}}},
		{"abc", "-.-", nil, []Place{{'#', 1, 1}, {'b', 4, 4}, {'#', 7, 7}}},
		{"abc", ".-.", []string{"a?c", "ac", "a*"}, []Place{{'#', 1, 4}, {'c', 7, 7}}},
		{"abc", ".-.", []string{"?"}, []Place{{'#', 1, 7}}},
		{"abc", "-..", []string{"bc"}, []Place{{'#', 1, 7}}},
		{"abc", ".+.", []string{"abc"}, []Place{{'#', 1, 1}, {'b', 4, 4}, {'#', 7, 7}}},
		{"abc", ".+.", []string{"a", "c", "b"}, []Place{{'a', 1, 1}, {'b', 4, 4}, {'c', 7, 7}}},
		{"abc", "+++", []string{"abc"}, []Place{{'a', 1, 1}, {'b', 4, 4}, {'c', 7, 7}}},
		{"abc", "+..", []string{"ab*", "*bc", "bc"}, []Place{{'a', 1, 1}, {'#', 4, 7}}},
		{"abc", "..+", []string{"a*", "c"}, []Place{{'#', 1, 4}, {'c', 7, 7}}},
		{"a1", "+-", []string{"*"}, []Place{{'a', 1, 1}, {'#', 4, 4}}},
	} {
		if l := Of(marked(k.text, k.how), k.against); !slices.Equal(l, k.want) {
			t.Errorf("P9: the places of %q, %q against %q are %v, want %v", k.text, k.how, k.against, l, k.want)
		}
	}
}

func TestHaveMask(t *testing.T) {
	places := Of(cells("a key"), []string{"key"})
	for _, k := range []struct {
		from, to int
		want     bool
	}{{0, 0, false}, {0, 2, false}, {0, 3, true}, {2, 3, true}, {1, 2, false}} {
		if yes := HaveMask(places[k.from:k.to]); yes != k.want {
			t.Errorf("P13: HaveMask of the places %d to %d = %v", k.from, k.to, yes)
		}
	}
}

func TestText(t *testing.T) {
	if text := Text(nil); text != "" {
		t.Errorf("P9: no place is the text %q", text)
	}
	if text := Text([]Place{{'#', 1, 7}, {'a', 8, 8}, {' ', 9, 9}}); text != "#a " {
		t.Errorf("P9: the text is %q", text)
	}
}

// TestCellsStayAsTheyAre: what is handed in is not written into.
func TestCellsStayAsTheyAre(t *testing.T) {
	seen := cells("ab cd")
	Of(seen, []string{"*"})
	if !slices.Equal(seen, cells("ab cd")) {
		t.Errorf("P2: the cells are %v now", seen)
	}
}
