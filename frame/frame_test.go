package frame

import (
	"bytes"
	"encoding/binary"
	"hash/crc32"
	"math"
	"strings"
	"testing"

	"isochron/api"
	"isochron/crc"
)

// numbers returns a function that gives numbers of 32 bits. Every seed has its own sequence.
func numbers(seed int) func() int {
	state := uint64(seed)*2862933555777941757 + 3037000493
	return func() int {
		state = state*6364136223846793005 + 1442695040888963407
		return int(state >> 32)
	}
}

// octets returns so many octets.
func octets(next func() int, size int) string {
	b := make([]byte, size)
	for i := range b {
		b[i] = byte(next() >> 13)
	}
	return string(b)
}

// isValid reports whether f is valid, in the words of the chapter.
func isValid(f api.Frame) bool {
	for _, address := range []int{f.Dst, f.Src} {
		if address < 0 || address > 281474976710655 {
			return false
		}
	}
	switch {
	case f.HasTag && (f.Prio < 0 || f.Prio > 7 || f.Vid < 0 || f.Vid > 4094):
		return false
	case !f.HasTag && (f.Prio != 0 || f.Vid != 0):
		return false
	case f.HasSeq && (f.Seq < 0 || f.Seq > 65535):
		return false
	case !f.HasSeq && f.Seq != 0:
		return false
	case f.Type != 0 && (f.Type < 1536 || f.Type > 65535):
		return false
	case f.Type == 33024 || f.Type == 61889:
		return false
	case f.HasSeq && len(f.Data) > 1494:
		return false
	}
	return len(f.Data) <= 1500
}

// bodyOf returns the octets of the encoding of a valid frame, without the check octets.
func bodyOf(f api.Frame) []byte {
	var b []byte
	b = append(b, binary.BigEndian.AppendUint64(nil, uint64(f.Dst))[2:]...)
	b = append(b, binary.BigEndian.AppendUint64(nil, uint64(f.Src))[2:]...)
	if f.HasTag {
		b = append(b, 0x81, 0x00)
		b = binary.BigEndian.AppendUint16(b, uint16(f.Prio<<13|f.Vid))
	}
	if f.HasSeq {
		b = append(b, 0xf1, 0xc1, 0x00, 0x00)
		b = binary.BigEndian.AppendUint16(b, uint16(f.Seq))
	}
	if f.Type == 0 {
		b = binary.BigEndian.AppendUint16(b, uint16(len(f.Data)))
	} else {
		b = binary.BigEndian.AppendUint16(b, uint16(f.Type))
	}
	b = append(b, f.Data...)
	for len(b) < 60 {
		b = append(b, 0)
	}
	return b
}

// sealed returns the octets of b followed by those of their CRC.
func sealed(b []byte) string {
	return string(binary.LittleEndian.AppendUint32(b[:len(b):len(b)], crc32.ChecksumIEEE(b)))
}

// isSealed reports whether s ends with the octets of the CRC of the others.
func isSealed(s string) bool {
	return len(s) >= 4 && s == sealed([]byte(s[:len(s)-4]))
}

// tagged returns f without tags, with each of them, and with both.
func tagged(f api.Frame) []api.Frame {
	f.HasTag, f.Prio, f.Vid, f.HasSeq, f.Seq = false, 0, 0, false, 0
	tag := f
	tag.HasTag, tag.Prio, tag.Vid = true, 5, 3
	seq := f
	seq.HasSeq, seq.Seq = true, 258
	both := tag
	both.HasSeq, both.Seq = true, 258
	return []api.Frame{f, tag, seq, both}
}

// decodings returns all valid frames whose encoding is s, as long as s is short: it tries all tags and all ends of Data.
func decodings(s string) []api.Frame {
	var l []api.Frame
	if !isSealed(s) {
		return nil
	}
	b := []byte(s[:len(s)-4])
	for _, f := range tagged(api.Frame{}) {
		at := 12
		if f.HasTag {
			at += 4
		}
		if f.HasSeq {
			at += 6
		}
		if len(b) < at+2 {
			continue
		}
		f.Dst = int(binary.BigEndian.Uint64(b)) >> 16 & (1<<48 - 1)
		f.Src = int(binary.BigEndian.Uint64(b[4:])) & (1<<48 - 1)
		if f.HasTag {
			f.Prio, f.Vid = int(b[14])>>5, int(b[14])&0x1f<<8|int(b[15])
		}
		if f.HasSeq {
			f.Seq = int(binary.BigEndian.Uint16(b[at-2:]))
		}
		if !bytes.HasPrefix(b, bodyOf(f)[:at]) {
			continue
		}
		for end := at + 2; end <= len(b); end++ {
			f.Data = string(b[at+2 : end])
			for _, f.Type = range []int{0, int(binary.BigEndian.Uint16(b[at:]))} {
				if isValid(f) && bytes.Equal(bodyOf(f), b) {
					l = append(l, f)
				}
			}
		}
	}
	return l
}

// expect checks all functions on a frame.
func expect(t *testing.T, f api.Frame) {
	t.Helper()
	want, size, err := "", 0, api.ErrFrame
	if isValid(f) {
		want, err = sealed(bodyOf(f)), api.OK
		size = len(want) + 20
	}
	if e := Check(f); e != err {
		t.Errorf("Check(%#v) = %d, not %d", f, e, err)
	}
	if s, e := Encode(f); s != want || e != err {
		t.Errorf("Encode(%#v) = %q, %d, not %q, %d", f, s, e, want, err)
	}
	if n, e := Wire(f); n != size || e != err {
		t.Errorf("Wire(%#v) = %d, %d, not %d, %d", f, n, e, size, err)
	}
	if err == api.OK {
		expectDecoded(t, want, padded(f), api.OK)
	}
}

// padded returns f with the Data that is decoded: with the octets 00 up to the minimum, unless their number is encoded.
func padded(f api.Frame) api.Frame {
	if f.Type == 0 {
		return f
	}
	header := 14
	if f.HasTag {
		header += 4
	}
	if f.HasSeq {
		header += 6
	}
	for header+len(f.Data) < 60 {
		f.Data += "\x00"
	}
	return f
}

// expectDecoded checks a result of Decode.
func expectDecoded(t *testing.T, s string, want api.Frame, err api.Errno) {
	t.Helper()
	if f, e := Decode(s); f != want || e != err {
		t.Errorf("Decode(%q) = %#v, %d, not %#v, %d", s, f, e, want, err)
	}
}

// expectLongest checks Decode by the definition, on a short string.
func expectLongest(t *testing.T, s string) {
	t.Helper()
	var want api.Frame
	err := api.ErrForm
	for _, f := range decodings(s) {
		if err != api.OK || len(f.Data) > len(want.Data) {
			want, err = f, api.OK
		}
	}
	expectDecoded(t, s, want, err)
}

// hello is the frame of the document's examples.
var hello = api.Frame{Dst: 1, Src: 2, Type: 0x0800, Data: "hello"}

// The document's table of examples: encodings and sizes.
func TestExampleEncodings(t *testing.T) {
	s, e := Encode(hello)
	want := "\x00\x00\x00\x00\x00\x01\x00\x00\x00\x00\x00\x02\x08\x00hello" + strings.Repeat("\x00", 41)
	if len(s) != 64 || s[:60] != want || e != api.OK {
		t.Errorf("Encode(hello) = %q, %d, not %q and check octets", s, e, want)
	}
	if n, e := Wire(hello); n != 84 || e != api.OK {
		t.Errorf("Wire(hello) = %d, %d", n, e)
	}
	f := api.Frame{Dst: 1, Src: 2, Type: 0x0800, HasTag: true, Vid: 5, Data: strings.Repeat("x", 1500)}
	if n, e := Wire(f); n != 1542 || e != api.OK {
		t.Errorf("Wire of the longest frame = %d, %d", n, e)
	}
	f = hello
	f.HasTag, f.Prio, f.Vid, f.HasSeq, f.Seq = true, 5, 3, true, 258
	if s, e := Encode(f); e != api.OK || s[12:24] != "\x81\x00\xa0\x03\xf1\xc1\x00\x00\x01\x02\x08\x00" {
		t.Errorf("Encode(%#v) = %q, %d", f, s, e)
	}
}

// The document's table of examples: what is decoded and what is invalid.
func TestExampleDecodings(t *testing.T) {
	s, _ := Encode(hello)
	f := hello
	f.Data += strings.Repeat("\x00", 41)
	expectDecoded(t, s, f, api.OK)
	f = hello
	f.Type = 0
	s, _ = Encode(f)
	expectDecoded(t, s, f, api.OK)
	vid, low, tag := hello, hello, hello
	vid.Vid, low.Type, tag.Type = 3, 0x100, 0x8100
	for _, f := range []api.Frame{vid, low, tag} {
		if e := Check(f); e != api.ErrFrame {
			t.Errorf("Check(%#v) = %d", f, e)
		}
	}
	expectDecoded(t, strings.Repeat("\x00", 64), api.Frame{}, api.ErrForm)
}

// ends are integers around 0 and the limits of all fields.
func ends() []int {
	l := []int{math.MinInt, math.MinInt + 1, math.MaxInt - 1, math.MaxInt}
	for _, n := range []int{0, 1, 7, 8, 100, 256, 1494, 1500, 1501, 1535, 1536, 2048, 4094, 4095, 4096, 8191, 8192, 8448, 0x8100, 0xf1c1, 0xc1f1, 1<<15 - 1, 1 << 15, 65535, 65536, 1<<16 + 1536, 1<<16 + 2048, 1<<31 - 1, 1 << 31, 1 << 32, 1<<32 + 2048, 1<<47 - 1, 1 << 47, 1<<48 - 1, 1 << 48, 1<<48 + 1, 1 << 49, 1<<56 - 1, 1 << 56, 1<<62 - 1} {
		l = append(l, n-1, n, n+1, -n-1, -n, -n+1)
	}
	return l
}

// P7.1: each field has its range, with and without each tag.
func TestFields(t *testing.T) {
	for _, f := range tagged(hello) {
		expect(t, f)
		for _, n := range ends() {
			for _, set := range []func(f *api.Frame){
				func(f *api.Frame) { f.Dst = n },
				func(f *api.Frame) { f.Src = n },
				func(f *api.Frame) { f.Prio = n },
				func(f *api.Frame) { f.Vid = n },
				func(f *api.Frame) { f.Seq = n },
				func(f *api.Frame) { f.Type = n },
				func(f *api.Frame) { f.Prio, f.Vid = n, 0 },
				func(f *api.Frame) { f.Prio, f.Vid = 0, n },
				func(f *api.Frame) { f.Prio, f.Vid, f.Seq = n, n, n },
				func(f *api.Frame) { f.Dst, f.Src, f.Type = n, n, n },
			} {
				changed := f
				set(&changed)
				expect(t, changed)
			}
		}
	}
}

// P7.1: fields of a tag that is not set are 0, also where the other tag is set.
func TestUnsetTags(t *testing.T) {
	for _, f := range tagged(hello) {
		for bits := range 16 {
			f.HasTag, f.HasSeq = bits&1 == 1, bits&2 == 2
			expect(t, f)
			f.Prio, f.Vid, f.Seq = bits&4, bits&8, bits&8
			expect(t, f)
		}
	}
}

// P7.1: all EtherTypes, with and without tags.
func TestTypes(t *testing.T) {
	for n := -3; n <= 65540; n++ {
		f := tagged(hello)[n&3]
		f.Type = n
		expect(t, f)
	}
}

// P7.1: all priorities with all VLANs, and all sequence numbers.
func TestTags(t *testing.T) {
	f := tagged(hello)[1]
	for f.Prio = -1; f.Prio <= 8; f.Prio++ {
		for f.Vid = -1; f.Vid <= 4097; f.Vid++ {
			expect(t, f)
		}
	}
	f = tagged(hello)[3]
	for f.Seq = -2; f.Seq <= 65538; f.Seq++ {
		expect(t, f)
	}
}

// P7.1, P7.3: Data of all lengths, with and without a Type and each tag; the sizes on the wire are from MinSize to MaxSize.
func TestLengths(t *testing.T) {
	next := numbers(1)
	least, most := math.MaxInt, 0
	for length := range 1510 {
		for _, f := range tagged(api.Frame{Dst: 1<<48 - 1, Src: next() << 16, Type: 0x88f7, Data: octets(next, length)}) {
			expect(t, f)
			f.Type = 0
			expect(t, f)
			f.Data = strings.Repeat("\x00", length)
			expect(t, f)
			if n, e := Wire(f); e == api.OK {
				least, most = min(least, n), max(most, n)
			}
		}
	}
	if least != api.MinSize || most != api.MaxSize {
		t.Errorf("sizes on the wire are from %d to %d", least, most)
	}
	for _, length := range []int{2036, 2048, 1<<16 - 1, 1 << 16, 1<<16 + 5, 1<<16 + 1494, 1 << 17, 1 << 20} {
		for _, f := range tagged(hello) {
			f.Data = strings.Repeat("x", length)
			expect(t, f)
			f.Type = 0
			expect(t, f)
		}
	}
}

// P7.1, P7.2: Data is any octets, among them such that are no text and such that look like tags.
func TestData(t *testing.T) {
	for _, data := range []string{"", "\x00", "\x00x", "x\x00", "\xff", "caf\xc3\xa9", "\xc3", "\xed\xa0\x80", "\x81\x00\x00\x01\x08\x00", "\xf1\xc1\x00\x00\x00\x01", "\x08\x00", strings.Repeat("\xff", 46), strings.Repeat("\x81\x00\xf1\xc1", 15), strings.Repeat("\x00", 45) + "x", strings.Repeat("\x00", 47), sealed(bodyOf(hello))} {
		for _, kind := range []int{0, 1536, 0x800, 0xffff} {
			for _, f := range tagged(api.Frame{Dst: 0x810000010800, Src: 0xf1c100000001, Type: kind, Data: data}) {
				expect(t, f)
			}
		}
	}
}

// P7.1: frames with fields of all kinds.
func TestMixedFrames(t *testing.T) {
	next := numbers(2)
	l := ends()
	for range 50000 {
		pick := func(most int) int {
			if next()%16 == 0 {
				return l[next()%len(l)]
			}
			return (next()<<32 | next()) & math.MaxInt % (most + 1)
		}
		f := api.Frame{Dst: pick(1<<48 - 1), Src: pick(1<<48 - 1), HasTag: next()&64 == 0, HasSeq: next()&64 == 0, Data: octets(next, next()%80)}
		if f.HasTag || next()%16 == 0 {
			f.Prio, f.Vid = pick(7), pick(4094)
		}
		if f.HasSeq || next()%16 == 0 {
			f.Seq = pick(65535)
		}
		if next()%4 != 0 {
			f.Type = 1536 + pick(65535-1536)
		}
		expect(t, f)
	}
}

// P7.2: of frames that differ only in octets 00 at the end of Data, the longest one is decoded.
func TestLongestData(t *testing.T) {
	for _, f := range tagged(hello) {
		long := padded(f)
		s := sealed(bodyOf(f))
		if n := len(decodings(s)); n != len(long.Data)-len("hello")+1 {
			t.Fatalf("%#v has the encoding of %d frames", f, n)
		}
		for end := len("hello"); end <= len(long.Data); end++ {
			f.Data = long.Data[:end]
			if got, e := Encode(f); got != s || e != api.OK {
				t.Errorf("Encode(%#v) = %q, %d", f, got, e)
			}
		}
		expectDecoded(t, s, long, api.OK)
		long.Data += "\x00"
		expect(t, long)
	}
}

// P7.2: strings of all short lengths are no encodings, sealed or not, except sealed ones of 64 octets or more.
func TestShortStrings(t *testing.T) {
	next := numbers(3)
	for size := range 80 {
		for _, s := range []string{strings.Repeat("\x00", size), strings.Repeat("\xff", size), octets(next, size)} {
			expectLongest(t, s)
			expectLongest(t, sealed([]byte(s)))
			expectLongest(t, crc.Mark(s))
		}
	}
	for _, f := range tagged(hello) {
		for _, f.Type = range []int{0, 0x88f7} {
			b := bodyOf(f)
			for end := range len(b) {
				expectDecoded(t, sealed(b[:end]), api.Frame{}, api.ErrForm)
				expectDecoded(t, string(b[:end]), api.Frame{}, api.ErrForm)
			}
		}
	}
}

// shortFrames are frames whose encodings have 60 to 64 octets before the check octets.
func shortFrames() []api.Frame {
	var l []api.Frame
	for _, length := range []int{0, 5, 36, 46, 47} {
		for _, kind := range []int{0, 0x0800} {
			f := hello
			f.Type, f.Data = kind, strings.Repeat("d", length)
			l = append(l, tagged(f)...)
		}
	}
	return l
}

// P7.2: every octet before Data has every value, in strings that are sealed nevertheless: a bit that is 0 in each tag, the octets 00 before a sequence number, tags instead of EtherTypes, lengths that do not fit.
func TestChangedOctets(t *testing.T) {
	for _, f := range shortFrames() {
		b := bodyOf(f)
		for at := 12; at < 26; at++ {
			kept := b[at]
			for n := range 256 {
				b[at] = byte(n)
				expectLongest(t, sealed(b))
			}
			b[at] = kept
		}
	}
}

// P7.2: tags in the wrong order, twice, or cut off by the end.
func TestMisplacedTags(t *testing.T) {
	parts := []string{"\x81\x00", "\xf1\xc1", "\x00\x00", "\x00\x05", "\x08\x00", "\x10\x05", "\xff\xff"}
	var rows func(start string, depth int)
	rows = func(start string, depth int) {
		for _, end := range []int{len(start), 60, 61} {
			b := append([]byte(start), make([]byte, max(0, end-len(start)))...)
			expectLongest(t, sealed(b))
		}
		if depth == 0 {
			return
		}
		for _, part := range parts {
			rows(start+part, depth-1)
		}
	}
	rows("\x00\x00\x00\x00\x00\x01\x00\x00\x00\x00\x00\x02", 5)
	// A field that is cut off has no octets of the check octets.
	next := numbers(4)
	for _, f := range shortFrames() {
		b := bodyOf(f)
		for _, more := range []int{-20, -5, -4, -3, -2, -1, 1, 2, 3, 4, 5, 20} {
			c := append(b[:min(len(b), len(b)+more):min(len(b), len(b)+more)], octets(next, max(0, more))...)
			expectLongest(t, sealed(c))
		}
	}
}

// P7.2: every length field below the EtherTypes, with bodies of lengths around the minimum: it is that of Data, or there is no such frame.
func TestLengthFields(t *testing.T) {
	for _, f := range tagged(api.Frame{Dst: 1, Src: 2}) {
		header := headerOf(f)
		for size := 58; size < 63; size++ {
			b := append(bodyOf(f), 0, 0)[:size]
			for n := range 1540 {
				binary.BigEndian.PutUint16(b[header-2:], uint16(n))
				expectLongest(t, sealed(b))
			}
		}
	}
}

// headerOf returns the number of octets before Data.
func headerOf(f api.Frame) int {
	f.Data = strings.Repeat("x", 100)
	return len(bodyOf(f)) - 100
}

// P7.2: padding consists of octets 00 only, and of no more than are needed.
func TestPadding(t *testing.T) {
	for _, f := range tagged(hello) {
		f.Type = 0
		b := bodyOf(f)
		for at := headerOf(f) + 5; at < len(b); at++ {
			for _, n := range []byte{1, 0x80, 0xff} {
				b[at] = n
				expectDecoded(t, sealed(b), api.Frame{}, api.ErrForm)
			}
			b[at] = 0
			expectDecoded(t, sealed(b), f, api.OK)
		}
		for more := 1; more < 70; more++ {
			expectDecoded(t, sealed(append(b[:len(b):len(b)], make([]byte, more)...)), api.Frame{}, api.ErrForm)
		}
	}
}

// P7.2: Data that is too long is no frame's, whatever stands before it.
func TestTooLong(t *testing.T) {
	for _, f := range tagged(hello) {
		for _, kind := range []int{0, 1536, 0x88f7} {
			f.Type = kind
			for _, length := range []int{1493, 1494, 1495, 1499, 1500, 1501, 1535, 1536, 1600, 2048, 1 << 16, 1<<16 + 20, 1 << 20} {
				f.Data = strings.Repeat("x", length)
				want, err := api.Frame{}, api.ErrForm
				if isValid(f) {
					want, err = f, api.OK
				}
				expectDecoded(t, sealed(bodyOf(f)), want, err)
			}
		}
	}
}
