package views

import (
	"slices"
	"testing"

	"veil/row"
)

// cells makes cells of a text that stand at every third number of the row.
func cells(text string) []row.Seen {
	var l []row.Seen
	for i := range len(text) {
		l = append(l, row.Seen{At: 3*i + 1, Char: text[i]})
	}
	return l
}

func TestOf(t *testing.T) {
	for _, k := range []struct {
		text    string
		against []string
		want    []Place
	}{
		{"", []string{"*"}, nil},
		{"a1", nil, []Place{{'a', 1, 1}, {'1', 4, 4}}},
		{"a", []string{"a"}, []Place{{'#', 1, 1}}},
		{"abc", []string{"b"}, []Place{{'a', 1, 1}, {'b', 4, 4}, {'c', 7, 7}}},
		{"a1.", []string{"a", "1"}, []Place{{'#', 1, 4}, {'.', 7, 7}}},
		{"ab.c", []string{"??", "?"}, []Place{{'#', 1, 4}, {'.', 7, 7}, {'#', 10, 10}}},
		{"ab", []string{"a*", "*b"}, []Place{{'#', 1, 4}}},
		{" ab", []string{"*b"}, []Place{{' ', 1, 1}, {'#', 4, 7}}},
		{"1a2", []string{"1", "2"}, []Place{{'#', 1, 1}, {'a', 4, 4}, {'#', 7, 7}}},
	} {
		if l := Of(cells(k.text), k.against); !slices.Equal(l, k.want) {
			t.Errorf("P9: the places of %q against %q are %v, want %v", k.text, k.against, l, k.want)
		}
	}
}

func TestText(t *testing.T) {
	if text := Text(nil); text != "" {
		t.Errorf("P9: no place is the text %q", text)
	}
	if text := Text([]Place{{'#', 1, 7}, {'a', 8, 8}, {' ', 9, 9}}); text != "#a " {
		t.Errorf("P9: the text is %q", text)
	}
}

// TestCellsStayAsTheyAre: what is handed in is not written into.
func TestCellsStayAsTheyAre(t *testing.T) {
	seen := cells("ab cd")
	Of(seen, []string{"*"})
	if !slices.Equal(seen, cells("ab cd")) {
		t.Errorf("P2: the cells are %v now", seen)
	}
}
