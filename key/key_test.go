package key

import (
	"testing"
)

// plain reckons a fingerprint as the chapter says it.
func plain(b string) uint32 {
	k := uint64(2166136261)
	for i := range len(b) {
		k = (k*16777619 + uint64(b[i]) + 1) % (1 << 32)
	}
	return uint32(k)
}

// P6.1
func TestOf(t *testing.T) {
	if Start() != 2166136261 || Of() != Start() || Of(nil, []byte{}) != Start() || Step(Start(), 0) != 84696352 || Of([]byte{0}) != 84696352 {
		t.Error(Of(), Of([]byte{0}))
	}
	for _, s := range []string{"", "a", "\x00\x00", "\xff", "selfsame", "the quick brown fox"} {
		if Of([]byte(s)) != plain(s) || On(Start(), []byte(s)) != plain(s) {
			t.Error(s, Of([]byte(s)))
		}
		k := Start()
		for i := range len(s) {
			k = Step(k, s[i])
		}
		if k != plain(s) {
			t.Error(s, k)
		}
		for i := range len(s) {
			if Of([]byte(s[:i]), []byte(s[i:])) != plain(s) || On(Of([]byte(s[:i])), []byte(s[i:])) != plain(s) {
				t.Error("cut", s, i)
			}
		}
	}
}

// P6.2
func TestUnlike(t *testing.T) {
	b := []byte("some bytes or other")
	for i := range b {
		for x := range 256 {
			c := append([]byte(nil), b...)
			c[i] = byte(x)
			if Same(b, c) != (b[i] == byte(x)) {
				t.Error(i, x)
			}
		}
	}
}
