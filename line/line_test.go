package line

import (
	"slices"
	"strings"
	"testing"
)

func TestNamedAndPrefix(t *testing.T) {
	if len(naming) != 11 || len(prefixes) != 6 {
		t.Fatal("not all words")
	}
	for _, s := range naming {
		if !Named(s) || Prefix(s) {
			t.Errorf("%q has its name ahead of it, and is no prefix", s)
		}
	}
	for _, s := range prefixes {
		if Named(s) || !Prefix(s) {
			t.Errorf("%q is a prefix, and has no name", s)
		}
	}
	for _, s := range append(others, "", " ", "==", ":", ",", "+", "0", "5", "\x00", "\xff", "É") {
		wantNoWord(t, s)
	}
}

// wantNoWord: a word is neither a prefix nor one with a name.
func wantNoWord(t *testing.T, s string) {
	t.Helper()
	if Named(s) || Prefix(s) {
		t.Errorf("%q: %v, %v", s, Named(s), Prefix(s))
	}
}

// A word is just itself: not with another letter, one more or one less, or small ones.
func TestWordsBesideWords(t *testing.T) {
	all := slices.Concat(naming, prefixes)
	asked := 0
	ask := func(s string) {
		if !slices.Contains(all, s) {
			asked++
			wantNoWord(t, s)
		}
	}
	for _, s := range all {
		for i := range len(s) + 1 {
			for c := range 256 {
				ask(s[:i] + string([]byte{byte(c)}) + s[i:])
				if i < len(s) {
					ask(s[:i] + string([]byte{byte(c)}) + s[i+1:])
				}
			}
			ask(s[:i])
			ask(s[i:])
			ask(s[:i] + strings.ToLower(s[i:]))
			ask(strings.ToLower(s[:i]) + s[i:])
			ask(s[i:] + s[:i])
		}
		ask(s + s)
		ask(strings.Repeat(s, 1000))
	}
	if asked < 30000 {
		t.Error("only", asked)
	}
}

// Of all words of up to two letters only DB, DW, DD, DQ and = are any.
func TestWordsOfEveryShort(t *testing.T) {
	for a := range 256 {
		for b := range 256 {
			s := string([]byte{byte(a), byte(b)})
			if is := slices.Contains(naming, s); Named(s) != is || Prefix(s) {
				t.Errorf("%q: %v, %v", s, Named(s), Prefix(s))
			}
		}
		s := string([]byte{byte(a)})
		if Named(s) != (s == "=") || Prefix(s) {
			t.Errorf("%q: %v, %v", s, Named(s), Prefix(s))
		}
	}
}
