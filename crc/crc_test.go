package crc

import (
	"hash/crc32"
	"math"
	"strings"
	"testing"
)

// numbers returns a function that gives numbers of 32 bits. Every seed has its own sequence.
func numbers(seed int) func() uint32 {
	state := uint64(seed)*2862933555777941757 + 3037000493
	return func() uint32 {
		state = state*6364136223846793005 + 1442695040888963407
		return uint32(state >> 32)
	}
}

// text returns so many octets.
func text(next func() uint32, size int) string {
	b := make([]byte, size)
	for i := range b {
		b[i] = byte(next() >> 13)
	}
	return string(b)
}

// bit is bit number i of s, as the chapter defines it.
func bit(s string, i int) uint32 {
	return uint32(s[i/8]) >> (i % 8) & 1
}

// changed returns s with those bits changed.
func changed(s string, bits ...int) string {
	b := []byte(s)
	for _, i := range bits {
		b[i/8] ^= 1 << (i % 8)
	}
	return string(b)
}

// after is the register after the bits of s, by the chapter's definition.
func after(c uint32, s string) uint32 {
	for i := range 8 * len(s) {
		y := c&1 ^ bit(s, i)
		c >>= 1
		if y == 1 {
			c ^= 0xedb88320
		}
	}
	return c
}

// crcOf is the CRC of s by the chapter's definition.
func crcOf(s string) uint32 {
	return ^after(0xffffffff, s)
}

// octetsOf are the check octets of c.
func octetsOf(c uint32) string {
	return string([]byte{byte(c), byte(c >> 8), byte(c >> 16), byte(c >> 24)})
}

// withCrc returns a string of four octets after start whose CRC is c: it takes back the steps of four octets from the end of the computation to its start.
func withCrc(start string, c uint32) string {
	before, r := after(0xffffffff, start), ^c
	for range 32 {
		if r>>31 == 1 {
			r = (r^0xedb88320)<<1 | 1
		} else {
			r <<= 1
		}
	}
	return start + octetsOf(before^r)
}

// shorts are all strings of at most two octets.
func shorts() []string {
	l := []string{""}
	for a := range 256 {
		l = append(l, string([]byte{byte(a)}))
		for b := range 256 {
			l = append(l, string([]byte{byte(a), byte(b)}))
		}
	}
	return l
}

// samples are strings of many lengths, with equal and with mixed octets, also such that are no text.
func samples() []string {
	l := []string{"", "a", "abc", "123456789", "\x00", "\xff", "caf\xc3\xa9", "\xc3", "\x80\x80\x80", "\xed\xa0\x80", "\xff\xff\xff\xff", "\x00\x00\x00\x00"}
	next := numbers(1)
	for size := range 140 {
		l = append(l, text(next, size), strings.Repeat("\x00", size), strings.Repeat("\xff", size))
	}
	for _, size := range []int{255, 256, 257, 511, 512, 1000, 1499, 1500, 1518, 1522, 1542, 4096, 65535, 65536, 100000} {
		l = append(l, text(next, size), strings.Repeat("\x00", size), strings.Repeat("\xff", size))
	}
	return l
}

// edges are numbers of 32 bits: with one bit, with one bit missing, with digits that are all different, and mixed ones.
func edges() []uint32 {
	l := []uint32{0, 1, math.MaxUint32, math.MaxUint32 - 1, 0x01020304, 0xfefdfcfb, 0xcbf43926, 0xffff0000, 0x0000ffff, 0xedb88320, 0x04c11db7, 0xdebb20e3, 0x2144df1c}
	for i := range 32 {
		l = append(l, 1<<i, ^uint32(1<<i), 1<<i-1)
	}
	next := numbers(2)
	for range 2000 {
		l = append(l, next())
	}
	return l
}

// The document's table of examples.
func TestExamples(t *testing.T) {
	for s, c := range map[string]uint32{"123456789": 0xcbf43926, "": 0, "a": 0xe8b7be43} {
		if got := Of(s); got != c {
			t.Errorf("Of(%q) = %08x, not %08x", s, got, c)
		}
	}
	if c := Extend(Of("1234"), "56789"); c != 0xcbf43926 {
		t.Errorf("Extend = %08x", c)
	}
	if s := Octets(0xcbf43926); s != "\x26\x39\xf4\xcb" {
		t.Errorf("Octets = % x", s)
	}
	if !Good(Seal("a")) || Good("a") || !Good("\x00\x00\x00\x00") {
		t.Errorf("Good: %t %t %t", Good(Seal("a")), Good("a"), Good("\x00\x00\x00\x00"))
	}
	if !Marked(Mark("a")) || Marked(Seal("a")) {
		t.Errorf("Marked: %t %t", Marked(Mark("a")), Marked(Seal("a")))
	}
}

// P6.1: the CRC bit by bit, as the chapter defines it, and as others compute it.
func TestOf(t *testing.T) {
	for _, s := range append(shorts(), samples()...) {
		c := crcOf(s)
		if other := crc32.ChecksumIEEE([]byte(s)); other != c {
			t.Fatalf("the test's CRC of %.40q is %08x, not %08x", s, c, other)
		}
		if got := Of(s); got != c {
			t.Errorf("Of(%.40q) (%d octets) = %08x, not %08x", s, len(s), got, c)
		}
	}
}

// P6.1: every string in two parts, one of them empty or not, and in three.
func TestExtendParts(t *testing.T) {
	for _, s := range samples() {
		if len(s) > 2000 {
			continue
		}
		c := crcOf(s)
		for i := 0; i <= len(s); i += 1 + i/20 {
			if got := Extend(Of(s[:i]), s[i:]); got != c {
				t.Errorf("Extend to %.40q (%d octets) from %d = %08x, not %08x", s, len(s), i, got, c)
			}
			j := (i + len(s)) / 2
			if got := Extend(Extend(Of(s[:i]), s[i:j]), s[j:]); got != c {
				t.Errorf("Extend to %.40q (%d octets) from %d and %d = %08x, not %08x", s, len(s), i, j, got, c)
			}
		}
	}
}

// P6.1: Extend depends on the CRC alone: each number is the CRC of strings, and for all of them the result is the same.
func TestExtendAnyCrc(t *testing.T) {
	next := numbers(3)
	for _, c := range edges() {
		if got := Extend(c, ""); got != c {
			t.Errorf("Extend(%08x, \"\") = %08x", c, got)
		}
		s := text(next, int(next()%50))
		for _, start := range []string{"", "\x00", text(next, int(next()%20))} {
			before := withCrc(start, c)
			if crcOf(before) != c {
				t.Fatalf("the CRC of %q is not %08x", before, c)
			}
			if got := Extend(c, s); got != crcOf(before+s) {
				t.Errorf("Extend(%08x, %q) = %08x, not %08x as after %q", c, s, got, crcOf(before+s), before)
			}
		}
	}
}

// P6.2: four octets, the least significant first.
func TestOctets(t *testing.T) {
	for _, c := range edges() {
		if s := Octets(c); s != octetsOf(c) {
			t.Errorf("Octets(%08x) = % x", c, s)
		}
	}
}

// P6.2: a string and then its check octets.
func TestSealAndMark(t *testing.T) {
	for _, s := range append(shorts(), samples()...) {
		c := crcOf(s)
		if got := Seal(s); got != s+octetsOf(c) {
			t.Errorf("Seal(%.40q) (%d octets) ends with % x, not with those of %08x", s, len(s), got[max(0, len(got)-4):], c)
		}
		if got := Mark(s); got != s+octetsOf(c^0xffff0000) {
			t.Errorf("Mark(%.40q) (%d octets) ends with % x, not with those of %08x", s, len(s), got[max(0, len(got)-4):], c^0xffff0000)
		}
	}
}

// expect checks Good and Marked of s.
func expect(t *testing.T, what, s string, good, marked bool) {
	t.Helper()
	if Good(s) != good || Marked(s) != marked {
		t.Errorf("%s: %.60q (%d octets): Good %t, Marked %t, not %t and %t", what, s, len(s), Good(s), Marked(s), good, marked)
	}
}

// decide checks Good and Marked of s by their definition.
func decide(t *testing.T, what, s string) {
	t.Helper()
	if len(s) < 4 {
		expect(t, what, s, false, false)
		return
	}
	end, c := s[len(s)-4:], crcOf(s[:len(s)-4])
	expect(t, what, s, end == octetsOf(c), end == octetsOf(c^0xffff0000))
}

// P6.3, P6.4: what is sealed is good and not marked, what is marked is marked and not good.
func TestGoodAndMarked(t *testing.T) {
	for _, s := range append(shorts(), samples()...) {
		expect(t, "sealed", s+octetsOf(crcOf(s)), true, false)
		expect(t, "marked", s+octetsOf(crcOf(s)^0xffff0000), false, true)
	}
}

// P6.3: no string with fewer than four octets is sealed or marked, also if its octets are the first or the last check octets.
func TestTooShort(t *testing.T) {
	l := shorts()
	for _, s := range []string{octetsOf(0), octetsOf(0xffff0000), octetsOf(0xffffffff), octetsOf(0x0000ffff), octetsOf(crcOf("a"))} {
		for n := range 4 {
			l = append(l, s[:n], s[4-n:])
		}
	}
	for a := range 256 {
		l = append(l, string([]byte{byte(a), 0, 0}), string([]byte{0, 0, byte(a)}), string([]byte{byte(a), 0xff, 0xff}))
	}
	for _, s := range l {
		expect(t, "short", s, false, false)
	}
}

// P6.3: of the strings of four octets, one is sealed and one is marked.
func TestFourOctets(t *testing.T) {
	expect(t, "0", "\x00\x00\x00\x00", true, false)
	expect(t, "FFFF0000", "\x00\x00\xff\xff", false, true)
	for _, c := range edges() {
		expect(t, "four octets", octetsOf(c), c == 0, c == 0xffff0000)
	}
	for i := range 4 {
		for a := range 255 {
			for _, c := range []uint32{0, 0xffff0000} {
				expect(t, "four octets", octetsOf(c^uint32(a+1)<<(8*i)), false, false)
			}
		}
	}
}

// P6.3: check octets that are almost right: reversed, halves exchanged, complemented, with one octet missing or one too many, or at another place.
func TestAlmost(t *testing.T) {
	for _, s := range samples() {
		if len(s) > 2000 {
			continue
		}
		for _, mark := range []uint32{0, 0xffff0000} {
			c := crcOf(s) ^ mark
			end := octetsOf(c)
			for _, wrong := range []string{
				string([]byte{end[3], end[2], end[1], end[0]}),
				end[2:] + end[:2],
				end[1:] + end[:1],
				octetsOf(^c),
				octetsOf(c ^ 0x0000ffff),
				octetsOf(c ^ 0xff),
				octetsOf(c ^ 0xff000000),
				octetsOf(c + 1),
				end[:3],
				end[1:],
				end + "\x00",
				"\x00" + end,
				end + end,
				"",
			} {
				decide(t, "almost", s+wrong)
			}
			decide(t, "before", end+s)
			if s != "" {
				decide(t, "first octet missing", (s + end)[1:])
			}
		}
	}
}

// P6.3: strings that nobody sealed, and parts and extensions of sealed strings.
func TestAnyString(t *testing.T) {
	next := numbers(4)
	for range 3000 {
		s := text(next, int(next()%80))
		decide(t, "any", s)
		for _, whole := range []string{Seal(s), Mark(s), Seal(Seal(s)), Mark(Seal(s)), Seal(Mark(s)), Seal(s) + s} {
			decide(t, "whole", whole)
			decide(t, "part", whole[:int(next())%len(whole)])
			decide(t, "rest", whole[int(next())%len(whole):])
		}
	}
}

// R5: the results depend only on the arguments, whatever was computed in between.
func TestNothingIsKept(t *testing.T) {
	for _, s := range samples()[:60] {
		c, e, sealed, marked := Of(s), Extend(7, s), Seal(s), Mark(s)
		for _, other := range []string{"", "x", s + "\x00"} {
			Of(other)
			Extend(c, other)
			Good(other)
			Marked(other)
			if Of(s) != c || Extend(7, s) != e || Seal(s) != sealed || Mark(s) != marked || !Good(sealed) || !Marked(marked) {
				t.Errorf("other results for %.40q after %.40q", s, other)
			}
		}
	}
}
