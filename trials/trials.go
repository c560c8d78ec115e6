// Package trials makes the many texts that tests have read: texts that are
// nearly right, and all short ones. Only tests use it.
package trials

import "iter"

// Near yields all texts that n edits make of some texts, some of them several
// times. An edit adds a byte, deletes one, puts another one at its place, or
// does nothing; the bytes that it writes are those of alphabet.
func Near(alphabet string, n int, texts ...string) iter.Seq[string] {
	return func(yield func(string) bool) {
		for _, s := range texts {
			if n == 0 {
				if !yield(s) {
					return
				}
				continue
			}
			for near := range Near(alphabet, n-1, edits(s, alphabet)...) {
				if !yield(near) {
					return
				}
			}
		}
	}
}

// Short returns all texts of the bytes of alphabet, of at most n bytes.
func Short(alphabet string, n int) []string {
	l := []string{""}
	for first := 0; n > 0; n-- {
		longest := l[first:]
		first = len(l)
		for _, s := range longest {
			for i := range len(alphabet) {
				l = append(l, s+alphabet[i:i+1])
			}
		}
	}
	return l
}

// edits returns all texts that one edit makes of a text.
func edits(s, alphabet string) []string {
	l := []string{s}
	for i := 0; i <= len(s); i++ {
		if i < len(s) {
			l = append(l, s[:i]+s[i+1:])
		}
		for j := range len(alphabet) {
			l = append(l, s[:i]+alphabet[j:j+1]+s[i:])
			if i < len(s) {
				l = append(l, s[:i]+alphabet[j:j+1]+s[i+1:])
			}
		}
	}
	return l
}
