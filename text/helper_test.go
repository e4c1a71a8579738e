package text_test

import (
	"math"
	"math/rand"
	"strings"
	"testing"

	"qanat/api"
)

// huge is the greatest int: lengths and numbers up to it must not overflow.
const huge = math.MaxInt

// line returns n letters.
func line(n int) string { return strings.Repeat("x", n) }

// wantText checks a string result.
func wantText(t *testing.T, call string, got string, e api.Errno, want string) {
	t.Helper()
	if e != api.OK || got != want {
		t.Errorf("%s: %q, %v; want %q", call, got, e, want)
	}
}

// wantError checks that there is this error and no result.
func wantError[T comparable](t *testing.T, call string, got T, e, want api.Errno) {
	t.Helper()
	var zero T
	if e != want || got != zero {
		t.Errorf("%s: %v, %v; want error %v and no result", call, got, e, want)
	}
}

// wantNumber checks an integer result.
func wantNumber(t *testing.T, call string, got int, e api.Errno, want int) {
	t.Helper()
	if e != api.OK || got != want {
		t.Errorf("%s: %d, %v; want %d", call, got, e, want)
	}
}

// source makes random arguments, always the same ones.
type source struct{ *rand.Rand }

func newSource(seed int64) source { return source{rand.New(rand.NewSource(seed))} }

// text returns up to n bytes of an alphabet.
func (r source) text(alphabet string, n int) string {
	list := make([]byte, r.Intn(n+1))
	for k := range list {
		list[k] = alphabet[r.Intn(len(alphabet))]
	}
	return string(list)
}

// any returns up to n bytes of valid strings.
func (r source) any(n int) string { return r.text(allBytes(), n) }

// pad returns a byte of valid strings.
func (r source) pad() byte { return byte(32 + r.Intn(95)) }

// missingOr returns Missing, or an integer from least to greatest.
func (r source) missingOr(least, greatest int) int {
	if r.Intn(4) == 0 {
		return api.Missing
	}
	return least + r.Intn(greatest-least+1)
}

// allBytes returns the bytes of valid strings.
func allBytes() string {
	var list []byte
	for x := 32; x <= 126; x++ {
		list = append(list, byte(x))
	}
	return string(list)
}
