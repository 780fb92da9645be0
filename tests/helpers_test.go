package tests

import (
	"slices"
	"testing"
)

// mustReturn fails the test with the name of the call if the call panics.
func mustReturn(t *testing.T, name string, call func()) {
	t.Helper()
	defer func() {
		if r := recover(); r != nil {
			t.Errorf("%s panics: %v", name, r)
		}
	}()
	call()
}

// textsUpTo returns all strings of at most length bytes, each one of those of alphabet.
func textsUpTo(alphabet string, length int) []string {
	all := []string{""}
	from := 0
	for range length {
		to := len(all)
		for _, s := range all[from:to] {
			for i := range len(alphabet) {
				all = append(all, s+alphabet[i:i+1])
			}
		}
		from = to
	}
	return all
}

// changedAt returns s with another byte at place i.
func changedAt(s string, i int, b byte) string {
	changed := []byte(s)
	changed[i] = b
	return string(changed)
}

// copyWithRest returns a copy of list with its backing array beyond its length, so that a
// test sees what is written there.
func copyWithRest[T any](list []T) []T {
	return slices.Clone(list[:cap(list)])
}
