package frame

import (
	"strings"
	"testing"

	"isochron/api"
)

// changed returns s with the bits from start on changed for which pattern has ones; the least significant bit of each octet is the first.
func changed(s string, start int, pattern uint32) string {
	b := []byte(s)
	for i := range 32 {
		if pattern>>i&1 == 1 {
			b[(start+i)/8] ^= 1 << ((start + i) % 8)
		}
	}
	return string(b)
}

// P7.3: Decode inverts Encode, and encoding again gives the same octets.
func TestInverse(t *testing.T) {
	next := numbers(5)
	for range 20000 {
		f := tagged(api.Frame{Dst: next() << 16, Src: next(), Type: 1536 + next()%2000, Data: octets(next, next()%120)})[next()&3]
		if next()&4 == 0 {
			f.Type = 0
		}
		s, e := Encode(f)
		g, e2 := Decode(s)
		if e != api.OK || e2 != api.OK || g != padded(f) {
			t.Errorf("Decode(Encode(%#v)) = %#v, %d, %d", f, g, e, e2)
		}
		if again, e := Encode(g); again != s || e != api.OK {
			t.Errorf("Encode(%#v) = %q, %d, not %q", g, again, e, s)
		}
	}
}

// P7.3: no encoding is decoded after changes within 32 consecutive bits, at any place.
func TestBursts(t *testing.T) {
	next := numbers(6)
	for _, f := range shortFrames() {
		s, _ := Encode(f)
		for start := range 8 * len(s) {
			room := min(32, 8*len(s)-start)
			all := ^uint32(0) >> (32 - room)
			for _, pattern := range []uint32{1, 2, 3, all, uint32(next()), uint32(next()) | 1, uint32(next()) | 1<<31} {
				if pattern &= all; pattern != 0 {
					expectDecoded(t, changed(s, start, pattern), api.Frame{}, api.ErrForm)
				}
			}
		}
	}
	long := hello
	long.Data = strings.Repeat("long", 375)
	s, _ := Encode(long)
	for range 2000 {
		expectDecoded(t, changed(s, next()%(8*len(s)-32), uint32(next())|1), api.Frame{}, api.ErrForm)
	}
}

// R5: what a call returns does not depend on the calls before it, failed ones among them.
func TestRepeated(t *testing.T) {
	s, _ := Encode(hello)
	bad := hello
	bad.Vid = 3
	for range 3 {
		expectDecoded(t, s, padded(hello), api.OK)
		expectDecoded(t, s[:63], api.Frame{}, api.ErrForm)
		expectDecoded(t, "", api.Frame{}, api.ErrForm)
		expect(t, bad)
		expect(t, hello)
	}
}
