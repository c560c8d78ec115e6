package trials

import (
	"iter"
	"slices"
	"testing"
)

// checkAll holds what is yielded, some of it perhaps several times, against a
// list in order.
func checkAll(t *testing.T, got iter.Seq[string], want ...string) {
	if l := slices.Compact(slices.Sorted(got)); !slices.Equal(l, want) {
		t.Helper()
		t.Errorf("%q; want %q", l, want)
	}
}

// What is yielded is all that the edits make, and nothing else.
func TestNear(t *testing.T) {
	checkAll(t, Near("a\xff", 0, "ab", "c"), "ab", "c")
	checkAll(t, Near("a\xff", 1, "ab"), "a", "aa", "aab", "ab", "aba", "ab\xff", "a\xff", "a\xffb", "b", "\xffab", "\xffb")
	checkAll(t, Near("a", 1, "", "b"), "", "a", "ab", "b", "ba")
	checkAll(t, Near("a", 2, ""), "", "a", "aa")
	checkAll(t, Near("a", 2, "b"), "", "a", "aa", "aab", "ab", "aba", "b", "ba", "baa")
	checkAll(t, Near("", 2, "bcd"), "b", "bc", "bcd", "bd", "c", "cd", "d")
	checkAll(t, Near("a", 2))
}

// Whoever goes through the texts may leave them.
func TestNearLeft(t *testing.T) {
	many := 0
	for range Near("abc", 3, "ab", "c") {
		if many++; many == 5 {
			break
		}
	}
	if many != 5 {
		t.Errorf("%d texts", many)
	}
}

// Each text is there once, the shorter ones first.
func TestShort(t *testing.T) {
	want := []string{"", "a", "\xff", "aa", "a\xff", "\xffa", "\xff\xff"}
	if got := Short("a\xff", 2); !slices.Equal(got, want) {
		t.Errorf("Short: %q; want %q", got, want)
	}
	if got := Short("a", 0); !slices.Equal(got, []string{""}) {
		t.Errorf("Short of no bytes: %q", got)
	}
	if got := len(Short("abc", 5)); got != 1+3+9+27+81+243 {
		t.Errorf("Short: %d texts", got)
	}
}
