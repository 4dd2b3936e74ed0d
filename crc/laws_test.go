package crc

import "testing"

// sealedStrings are sealed strings of some lengths up to 1000 octets.
func sealedStrings() []string {
	next := numbers(5)
	l := []string{Seal(""), Seal("\x00"), Seal("\xff\xff\xff\xff")}
	for _, size := range []int{1, 2, 3, 4, 5, 8, 31, 60, 64} {
		l = append(l, Seal(text(next, size)))
	}
	return l
}

// burst returns the bits from start on for which pattern has ones.
func burst(start int, pattern uint32) []int {
	var l []int
	for i := range 32 {
		if pattern>>i&1 == 1 {
			l = append(l, start+i)
		}
	}
	return l
}

// P6.4: no change within 1 to 32 consecutive bits is missed: for all short bursts, and for some of each length, with and without their first, last and inner bits.
func TestBursts(t *testing.T) {
	next := numbers(6)
	for _, s := range sealedStrings() {
		for start := range 8 * len(s) {
			room := min(32, 8*len(s)-start)
			var patterns []uint32
			for p := range uint32(64) {
				patterns = append(patterns, p)
			}
			for length := range room + 1 {
				all := uint32(1)<<length - 1
				some := next() & all
				patterns = append(patterns, all, some, all&^(all>>1)|1, all>>1&^1, some|all&^(all>>1)|1)
			}
			for _, p := range patterns {
				p &= uint32(1)<<room - 1
				if p == 0 {
					continue
				}
				if x := changed(s, burst(start, p)...); Good(x) {
					t.Errorf("%q with the bits %b from %d changed, %q, is good", s, p, start, x)
				}
			}
		}
	}
}

// P6.4: the check octets are 32 consecutive bits: no others than those of the CRC are good.
func TestReplacedChecks(t *testing.T) {
	next := numbers(7)
	for range 20000 {
		s := Seal(text(next, int(next()%20)))
		if x := s[:len(s)-4] + octetsOf(next()); Good(x) != (x == s) {
			t.Errorf("%q, %q with other check octets, is good", x, s)
		}
	}
}

// P6.3: a change within 33 consecutive bits can be missed, if it is by the polynomial itself: a string is sealed by its octets alone.
func TestMissedChange(t *testing.T) {
	for _, s := range sealedStrings() {
		for start := range 8*len(s) - 32 {
			x := changed(s, append(burst(start+1, 0xedb88320), start)...)
			expect(t, "changed by the polynomial", x, true, false)
		}
	}
}

// P6.4: two changed bits are never missed: all pairs in shorter strings, and in 1000 octets the pairs at all distances.
func TestTwoBits(t *testing.T) {
	for _, s := range sealedStrings() {
		for i := range 8 * len(s) {
			for j := range i {
				if Good(changed(s, i, j)) {
					t.Errorf("%q with the bits %d and %d changed is good", s, i, j)
				}
			}
		}
	}
	next := numbers(8)
	s := Seal(text(next, 996))
	last := 8*len(s) - 1
	for d := range last {
		from := int(next()) % (last - d)
		for _, i := range []int{0, from, last - 1 - d} {
			if Good(changed(s, i, i+1+d)) {
				t.Errorf("%d octets with the bits %d and %d changed are good", len(s), i, i+1+d)
			}
		}
	}
}

// exclusive returns the exclusive or of three strings of the same length.
func exclusive(s, t, u string) string {
	b := []byte(s)
	for i := range b {
		b[i] ^= t[i] ^ u[i]
	}
	return string(b)
}

// P6.4: the CRC of the exclusive or of three strings.
func TestExclusiveOr(t *testing.T) {
	next := numbers(9)
	for size := range 200 {
		for range 10 {
			a, b, c := text(next, size), text(next, size), text(next, size)
			if x := exclusive(a, b, c); Of(x) != Of(a)^Of(b)^Of(c) {
				t.Errorf("%q, %q, %q: %08x, not the exclusive or of %08x, %08x and %08x", a, b, c, Of(x), Of(a), Of(b), Of(c))
			}
			// Therefore sealed strings have it too, and with one or three marked ones the result is marked.
			expect(t, "sealed", exclusive(Seal(a), Seal(b), Seal(c)), true, false)
			expect(t, "one marked", exclusive(Seal(a), Mark(b), Seal(c)), false, true)
			expect(t, "two marked", exclusive(Mark(a), Seal(b), Mark(c)), true, false)
			expect(t, "three marked", exclusive(Mark(a), Mark(b), Mark(c)), false, true)
		}
	}
}

// P6.4: no string is both sealed and marked, whatever it ends with.
func TestNeverBoth(t *testing.T) {
	next := numbers(10)
	for _, s := range samples() {
		if len(s) > 2000 {
			continue
		}
		c := crcOf(s)
		for _, d := range []uint32{0, 0xffff0000, 0x0000ffff, 0xffffffff, 1, 1 << 31, next(), next()} {
			if x := s + octetsOf(c^d); Good(x) && Marked(x) {
				t.Errorf("%.40q (%d octets) is both", x, len(x))
			}
		}
	}
}
