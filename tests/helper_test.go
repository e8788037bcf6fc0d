package tests

import (
	"math/rand"
	"testing"
)

// same fails the test if a result is not the one that the document requires.
func same[T comparable](t *testing.T, what string, got T, want T) {
	t.Helper()
	if got != want {
		t.Errorf("%s: got %#v, want %#v", what, got, want)
	}
}

// someBytes returns a string of n bytes that is the same in every run.
func someBytes(seed int64, n int) string {
	out := make([]byte, n)
	rand.New(rand.NewSource(seed)).Read(out)
	return string(out)
}

// changed returns the string with the bits of mask inverted in the byte at an offset.
func changed(text string, at int, mask byte) string {
	out := []byte(text)
	out[at] ^= mask
	return string(out)
}
