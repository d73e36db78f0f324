package tests

import (
	"bytes"
	"testing"
)

const filler = 0xee

// roomy lays b at the front of a longer array, so that a write behind its
// length is seen.
func roomy(b []byte) []byte {
	all := bytes.Repeat([]byte{filler}, len(b)+64)
	copy(all, b)
	return all[:len(b)]
}

// checkUntouched fails if what roomy made of want is no longer that, its spare
// room with it.
func checkUntouched(t *testing.T, got, want []byte) {
	t.Helper()
	if !bytes.Equal(got, want) {
		t.Fatalf("the argument became % x, was % x", got, want)
	}
	for i, x := range got[len(got):cap(got)] {
		if x != filler {
			t.Fatalf("byte %d of the room behind the argument became %x", i, x)
		}
	}
}

// spoil overwrites all memory that b can reach: what shares any of it changes.
func spoil(b []byte) {
	b = b[:cap(b)]
	for i := range b {
		b[i] = ^b[i]
	}
}

// joined is written here anew, so that the tests do not lean on the program.
func joined(parts ...[]byte) []byte {
	out := []byte{}
	for _, p := range parts {
		out = append(out, p...)
	}
	return out
}
