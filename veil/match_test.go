package veil_test

import (
	"strings"
	"testing"

	"veil/api"
	"veil/veil"
)

func TestMatch(t *testing.T) {
	long := strings.Repeat("a", 100000)
	for _, k := range []struct {
		pattern, text string
		want          bool
	}{
		{"a*c", "abbc", true}, {"a*c", "ac", true}, {"a?c", "ac", false}, {"*", "", true}, {"ab", "abc", false},
		{"ab", "ab", true}, {"ab", "a", false}, {"ab", "ba", false}, {"ab", "xab", false}, {"a", "", false}, {"a", "A", false}, {"0", "0", true}, {"9", "0", false},
		{"?", "", false}, {"?", "x", true}, {"?", "xy", false}, {"a?c", "abc", true}, {"??", "ab", true},
		{"a*", "a", true}, {"a*", "ba", false}, {"*a", "bca", true}, {"*a", "ab", false}, {"*ab", "aab", true}, {"a*b*c", "axbxbxc", true}, {"a*b*c", "acb", false},
		{"a*a", "a", false}, {"**", "", true}, {"**", "xyz", true}, {"***a", "a", true}, {"?*?", "x", false}, {"*?*", "", false}, {"*?*", "x", true},
		{"abcdefghijkl", "abcdefghijkl", true}, {"abcdefghijkl", "abcdefghijk", false}, {"************", "x", true}, {"????????????", "abcdefghijkl", true}, {"????????????", "abcdefghijk", false},
		{"*a*a*a*a*a*b", long, false}, {"*a*a*a*a*a*b", long + "b", true}, {"a", long, false},
	} {
		y, e := veil.Match(k.pattern, k.text)
		if y != k.want || e != api.OK {
			t.Errorf("P5: Match(%q, %.40q) = %v, %d, want %v", k.pattern, k.text, y, e, k.want)
		}
	}
}

// TestMatchBytes: a text is any bytes, and `?` is one byte of it, not one letter of several bytes.
func TestMatchBytes(t *testing.T) {
	for b := range 256 {
		text := string([]byte{byte(b)})
		for _, pattern := range []string{"?", "*", "a"} {
			want := pattern != "a" || b == 'a'
			y, e := veil.Match(pattern, text)
			if y != want || e != api.OK {
				t.Errorf("P5: Match(%q, %q) = %v, %d, want %v", pattern, text, y, e, want)
			}
		}
	}
	y, e := veil.Match("?", "é")
	if y || e != api.OK {
		t.Errorf("P5: two bytes match ?: %v, %d", y, e)
	}
	y, e = veil.Match("a??b", "aéb")
	if !y || e != api.OK {
		t.Errorf("P5: two bytes do not match ??: %v, %d", y, e)
	}
}

// TestNoPattern: the wrong pattern is its own text, so that an answer true would show.
func TestNoPattern(t *testing.T) {
	for _, pattern := range []string{"", "A", "a#", "a b", " ", "aB", "a\x00", "é", "\xff", "a-z", "*.", strings.Repeat("a", api.MaxWord+1), strings.Repeat("*", api.MaxWord+1), strings.Repeat("a", 100000)} {
		y, e := veil.Match(pattern, pattern)
		if y || e != api.ErrText {
			t.Errorf("P1, P5: Match(%.40q, the same) = %v, %d, want ErrText", pattern, y, e)
		}
	}
}

// TestPatternBytes: which of all bytes may stand in a pattern.
func TestPatternBytes(t *testing.T) {
	for b := range 256 {
		want := api.ErrText
		if strings.IndexByte("abcdefghijklmnopqrstuvwxyz0123456789?*", byte(b)) >= 0 {
			want = api.OK
		}
		for _, pattern := range []string{string([]byte{byte(b)}), string([]byte{'a', byte(b)})} {
			_, e := veil.Match(pattern, "")
			if e != want {
				t.Errorf("P5: Match(%q, nothing) answers %d, want %d", pattern, e, want)
			}
		}
	}
}
