package ptp

import (
	"bytes"
	"encoding/binary"
	"math"
	"testing"

	"isochron/api"
)

// numbers returns a function that gives numbers of 32 bits. Every seed has its own sequence.
func numbers(seed int) func() int {
	state := uint64(seed)*2862933555777941757 + 3037000493
	return func() int {
		state = state*6364136223846793005 + 1442695040888963407
		return int(state >> 32)
	}
}

// kinds are the six kinds of messages.
var kinds = []int{0, 2, 3, 8, 10, 11}

// lengths are the lengths of the encodings of the kinds.
var lengths = map[int]int{0: 22, 2: 22, 3: 38, 8: 34, 10: 38, 11: 36}

// isTo reports whether n is from least to most.
func isTo(least, n, most int) bool {
	return least <= n && n <= most
}

// isMaster reports whether m is valid, in the words of the chapter.
func isMaster(m api.Master) bool {
	return isTo(0, m.Priority1, 255) && isTo(0, m.Class, 255) && isTo(0, m.Accuracy, 255) && isTo(0, m.Priority2, 255) &&
		isTo(0, m.Variance, 65535) && isTo(0, m.Id, 281474976710655)
}

// isPort reports whether p is valid, in the words of the chapter.
func isPort(p api.PortId) bool {
	return isTo(0, p.Id, 281474976710655) && isTo(1, p.Port, 65535)
}

// isMessage reports whether m is valid, in the words of the chapter.
func isMessage(m api.Message) bool {
	if !isTo(0, m.Domain, 127) || !isTo(-4398046511104, m.Correction, 4398046511104) || !isPort(m.Source) || !isTo(0, m.Seq, 65535) {
		return false
	}
	hasTime, hasRequester := false, false
	switch m.Kind {
	case 0, 2:
	case 3, 10:
		hasTime, hasRequester = true, true
	case 8:
		hasTime = true
	case 11:
	default:
		return false
	}
	switch {
	case hasTime && !isTo(-4398046511104, m.Time, 4398046511104), !hasTime && m.Time != 0:
		return false
	case hasRequester && !isPort(m.Requester), !hasRequester && (m.Requester.Id != 0 || m.Requester.Port != 0):
		return false
	case m.Kind == 8 && !isTo(-8388608, m.Ppb, 8388608), m.Kind != 8 && m.Ppb != 0:
		return false
	case m.Kind == 11:
		return isMaster(m.Master) && isTo(0, m.Steps, 65535)
	}
	return m.Master == (api.Master{}) && m.Steps == 0
}

// append48 returns b followed by the last six bytes of n.
func append48(b []byte, n int) []byte {
	return append(b, binary.BigEndian.AppendUint64(nil, uint64(n))[2:]...)
}

// encodingOf returns the encoding of a valid message, in the order of the chapter's table.
func encodingOf(m api.Message) []byte {
	order := binary.BigEndian
	b := []byte{byte(m.Kind), byte(m.Domain)}
	b = order.AppendUint16(b, uint16(lengths[m.Kind]))
	b = order.AppendUint64(b, uint64(m.Correction))
	b = order.AppendUint16(append48(b, m.Source.Id), uint16(m.Source.Port))
	b = order.AppendUint16(b, uint16(m.Seq))
	switch m.Kind {
	case 3, 10:
		b = order.AppendUint64(b, uint64(m.Time))
		b = order.AppendUint16(append48(b, m.Requester.Id), uint16(m.Requester.Port))
	case 8:
		b = order.AppendUint64(b, uint64(m.Time))
		b = order.AppendUint32(b, uint32(m.Ppb))
	case 11:
		b = append(b, byte(m.Master.Priority1), byte(m.Master.Class), byte(m.Master.Accuracy))
		b = append(order.AppendUint16(b, uint16(m.Master.Variance)), byte(m.Master.Priority2))
		b = order.AppendUint16(append48(b, m.Master.Id), uint16(m.Steps))
	}
	return b
}

// number48 returns the number of the first six bytes of b.
func number48(b []byte) int {
	return int(binary.BigEndian.Uint16(b))<<32 | int(binary.BigEndian.Uint32(b[2:]))
}

// port returns the port identity of the first eight bytes of b.
func port(b []byte) api.PortId {
	return api.PortId{Id: number48(b), Port: int(binary.BigEndian.Uint16(b[6:]))}
}

// decodingOf returns the valid message whose encoding is b, if there is one.
func decodingOf(b []byte) (api.Message, bool) {
	if len(b) < 22 || len(b) != lengths[int(b[0])] {
		return api.Message{}, false
	}
	order := binary.BigEndian
	m := api.Message{Kind: int(b[0]), Domain: int(b[1]), Correction: int(order.Uint64(b[4:])), Source: port(b[12:]), Seq: int(order.Uint16(b[20:]))}
	switch m.Kind {
	case 3, 10:
		m.Time, m.Requester = int(order.Uint64(b[22:])), port(b[30:])
	case 8:
		m.Time, m.Ppb = int(order.Uint64(b[22:])), int(int32(order.Uint32(b[30:])))
	case 11:
		m.Master = api.Master{Priority1: int(b[22]), Class: int(b[23]), Accuracy: int(b[24]), Variance: int(order.Uint16(b[25:])), Priority2: int(b[27]), Id: number48(b[28:])}
		m.Steps = int(order.Uint16(b[34:]))
	}
	if !isMessage(m) || !bytes.Equal(b, encodingOf(m)) {
		return api.Message{}, false
	}
	return m, true
}

// expect checks Check and Encode on a message, and Decode on its encoding.
func expect(t *testing.T, m api.Message) {
	t.Helper()
	var want []byte
	err := api.ErrMessage
	if isMessage(m) {
		want, err = encodingOf(m), api.OK
	}
	if e := Check(m); e != err {
		t.Errorf("Check(%+v) = %d, not %d", m, e, err)
	}
	b, e := Encode(m)
	if !bytes.Equal(b, want) || e != err {
		t.Errorf("Encode(%+v) = % x, %d, not % x, %d", m, b, e, want, err)
	}
	if err == api.OK {
		expectDecoded(t, want)
		if got, e := Decode(b); got != m || e != api.OK {
			t.Errorf("Decode(Encode(%+v)) = %+v, %d", m, got, e)
		}
	}
}

// expectDecoded checks Decode.
func expectDecoded(t *testing.T, b []byte) {
	t.Helper()
	err := api.ErrForm
	want, ok := decodingOf(b)
	if ok {
		err = api.OK
	}
	if m, e := Decode(b); m != want || e != err {
		t.Errorf("Decode(% x) = %+v, %d, not %+v, %d", b, m, e, want, err)
	}
}

// expectForm checks that b is no encoding.
func expectForm(t *testing.T, b []byte) {
	t.Helper()
	if m, e := Decode(b); m != (api.Message{}) || e != api.ErrForm {
		t.Errorf("Decode(% x) = %+v, %d, not ErrForm", b, m, e)
	}
}

// expectMaster checks CheckMaster, and Check on an announcement of the master.
func expectMaster(t *testing.T, m api.Master) {
	t.Helper()
	err := api.ErrMaster
	if isMaster(m) {
		err = api.OK
	}
	if e := CheckMaster(m); e != err {
		t.Errorf("CheckMaster(%+v) = %d, not %d", m, e, err)
	}
	expect(t, api.Message{Kind: 11, Source: api.PortId{Port: 1}, Master: m})
}

// ordinary returns a valid message of a kind in which all fields of the kind are different from zero and from each other.
func ordinary(kind int) api.Message {
	m := api.Message{Kind: kind, Domain: 17, Correction: -0x10203040506, Source: api.PortId{Id: 0xa1a2a3a4a5a6, Port: 0xb1b2}, Seq: 0xc1c2}
	switch kind {
	case 3, 10:
		m.Time, m.Requester = 0x31112131415, api.PortId{Id: 0xd1d2d3d4d5d6, Port: 0xe1e2}
	case 8:
		m.Time, m.Ppb = -0x32122232425, 0x515253
	case 11:
		m.Master = api.Master{Priority1: 0x81, Class: 0x82, Accuracy: 0x83, Variance: 0x8485, Priority2: 0x86, Id: 0x919293949596}
		m.Steps = 0x7172
	}
	return m
}

// lowest returns the valid message of a kind in which every field has its least value; highest the one with the greatest values.
func lowest(kind int) api.Message {
	m := api.Message{Kind: kind, Correction: -1 << 42, Source: api.PortId{Port: 1}}
	switch kind {
	case 3, 10:
		m.Time, m.Requester.Port = -1<<42, 1
	case 8:
		m.Time, m.Ppb = -1<<42, -1<<23
	}
	return m
}

func highest(kind int) api.Message {
	last := api.PortId{Id: 1<<48 - 1, Port: 65535}
	m := api.Message{Kind: kind, Domain: 127, Correction: 1 << 42, Source: last, Seq: 65535}
	switch kind {
	case 3, 10:
		m.Time, m.Requester = 1<<42, last
	case 8:
		m.Time, m.Ppb = 1<<42, 1<<23
	case 11:
		m.Master = api.Master{Priority1: 255, Class: 255, Accuracy: 255, Variance: 65535, Priority2: 255, Id: 1<<48 - 1}
		m.Steps = 65535
	}
	return m
}

// samples are valid messages of all kinds.
func samples() []api.Message {
	var l []api.Message
	for _, kind := range kinds {
		l = append(l, lowest(kind), ordinary(kind), highest(kind))
	}
	return l
}

// ends are integers around 0, the limits of all fields and the powers of two that fields of some bytes hold.
func ends() []int {
	l := []int{math.MinInt, math.MinInt + 1, math.MaxInt - 1, math.MaxInt}
	for _, n := range []int{0, 3, 8, 11, 22, 64, 100, 1000} {
		l = append(l, n-1, n, n+1, -n)
	}
	for power := 7; power < 63; power++ {
		n := 1 << power
		l = append(l, n-1, n, n+1, -n-1, -n, -n+1)
	}
	return l
}

// places returns where m has its integers.
func places(m *api.Message) []*int {
	return []*int{&m.Kind, &m.Domain, &m.Correction, &m.Source.Id, &m.Source.Port, &m.Seq, &m.Time, &m.Ppb, &m.Requester.Id, &m.Requester.Port,
		&m.Master.Priority1, &m.Master.Class, &m.Master.Accuracy, &m.Master.Variance, &m.Master.Priority2, &m.Master.Id, &m.Steps}
}

// sync is the message S of the document's examples.
var sync = api.Message{Kind: api.PtSync, Domain: 1, Correction: -2, Source: api.PortId{Id: 5, Port: 1}, Seq: 258}

// syncBytes is its encoding.
const syncBytes = "\x00\x01\x00\x16\xff\xff\xff\xff\xff\xff\xff\xfe\x00\x00\x00\x00\x00\x05\x00\x01\x01\x02"

// The document's table of examples.
func TestExamples(t *testing.T) {
	b, e := Encode(sync)
	if string(b) != syncBytes || e != api.OK {
		t.Errorf("Encode(S) = % x, %d", b, e)
	}
	c, e := Encode(api.Message{Kind: api.PtFollow, Source: api.PortId{Id: 5, Port: 1}, Time: 1, Ppb: -1})
	if len(c) != 34 || string(c[22:]) != "\x00\x00\x00\x00\x00\x00\x00\x01\xff\xff\xff\xff" || e != api.OK {
		t.Errorf("Encode of the follow-up = % x, %d", c, e)
	}
	if Size(3) != 38 || Size(11) != 36 || Size(1) != 0 {
		t.Errorf("Size = %d, %d, %d", Size(3), Size(11), Size(1))
	}
	if m, e := Decode([]byte(syncBytes)); m != sync || e != api.OK {
		t.Errorf("Decode(S's encoding) = %+v, %d", m, e)
	}
	expectForm(t, []byte(syncBytes[:21]))
	expectForm(t, []byte(syncBytes+"\x00"))
	expectForm(t, []byte(syncBytes[:3]+"\x17"+syncBytes[4:]))
	timed, nowhere := sync, sync
	timed.Time, nowhere.Source.Port = 1, 0
	if Check(timed) != api.ErrMessage || Check(nowhere) != api.ErrMessage || CheckMaster(api.Master{Class: 256}) != api.ErrMaster {
		t.Errorf("Check(S with Time 1) = %d, with Port 0 = %d; CheckMaster(Class 256) = %d", Check(timed), Check(nowhere), CheckMaster(api.Master{Class: 256}))
	}
}

// P10.2: the chapter's table of fields, byte for byte.
func TestBytes(t *testing.T) {
	header := "\x11\x00\x00\xff\xff\xfe\xfd\xfc\xfb\xfa\xfa\xa1\xa2\xa3\xa4\xa5\xa6\xb1\xb2\xc1\xc2"
	time := "\x00\x00\x03\x11\x12\x13\x14\x15"
	requester := "\xd1\xd2\xd3\xd4\xd5\xd6\xe1\xe2"
	for kind, further := range map[int]string{
		0:  "",
		2:  "",
		3:  time + requester,
		8:  "\xff\xff\xfc\xde\xdd\xdc\xdb\xdb" + "\x00\x51\x52\x53",
		10: time + requester,
		11: "\x81\x82\x83\x84\x85\x86\x91\x92\x93\x94\x95\x96" + "\x71\x72",
	} {
		want := []byte{byte(kind)}
		want = append(want, header...)
		want = append(want, further...)
		want[3] = byte(len(want))
		if b, e := Encode(ordinary(kind)); !bytes.Equal(b, want) || e != api.OK {
			t.Errorf("Encode(%+v) = % x, %d, not % x", ordinary(kind), b, e, want)
		}
		if m, e := Decode(want); m != ordinary(kind) || e != api.OK {
			t.Errorf("Decode(% x) = %+v, %d", want, m, e)
		}
	}
}

// P10.1: there are six kinds.
func TestSize(t *testing.T) {
	for kind := -300; kind <= 70000; kind++ {
		if n := Size(kind); n != lengths[kind] {
			t.Errorf("Size(%d) = %d, not %d", kind, n, lengths[kind])
		}
	}
	for _, kind := range ends() {
		if n := Size(kind); n != lengths[kind] {
			t.Errorf("Size(%d) = %d, not %d", kind, n, lengths[kind])
		}
	}
}

// P10.1: each field of a master has its range.
func TestMasters(t *testing.T) {
	expectMaster(t, api.Master{})
	for _, sample := range []api.Message{lowest(11), ordinary(11), highest(11)} {
		expectMaster(t, sample.Master)
		m := sample
		for _, at := range places(&m)[10:16] {
			for _, n := range ends() {
				kept := *at
				*at = n
				expectMaster(t, m.Master)
				*at = kept
			}
			for n := -3; n <= 65540; n += 1 + n>>8*5 {
				kept := *at
				*at = n
				expectMaster(t, m.Master)
				*at = kept
			}
		}
	}
}

// P10.1, P10.2: each field has its range in messages of its kinds, and is zero in the others. There are no other kinds.
func TestFields(t *testing.T) {
	for _, sample := range samples() {
		expect(t, sample)
		m := sample
		for _, at := range places(&m) {
			kept := *at
			for _, n := range ends() {
				*at = n
				expect(t, m)
			}
			*at = kept
		}
		if m != sample {
			t.Fatal("a field was not restored")
		}
		for m.Kind = -300; m.Kind <= 300; m.Kind++ {
			expect(t, m)
		}
	}
}

// P10.1: fields of other kinds are zero, also if they would be valid in the kind that they belong to.
func TestForeignFields(t *testing.T) {
	for _, sample := range samples() {
		for _, other := range samples() {
			for from := 6; from < 17; from++ {
				m, o := sample, other
				*places(&m)[from] = *places(&o)[from]
				expect(t, m)
			}
			m := other
			m.Kind = sample.Kind
			expect(t, m)
		}
	}
}

// P10.1: two fields that are out of their ranges, and such in a message of an unknown kind.
func TestPairsOfFields(t *testing.T) {
	for _, sample := range samples() {
		for i := range 17 {
			for j := range 17 {
				for _, n := range []int{-1, 1 << 48, math.MinInt, math.MaxInt} {
					m := sample
					*places(&m)[i], *places(&m)[j] = n, -n
					expect(t, m)
				}
			}
		}
	}
	for _, kind := range []int{-1, 1, 4, 7, 9, 12, 255, 256, 258, 267} {
		expect(t, api.Message{Kind: kind, Source: api.PortId{Port: 1}})
	}
	expect(t, api.Message{})
	expect(t, api.Message{Kind: 3, Source: api.PortId{Port: 1}})
	expect(t, api.Message{Kind: 3, Source: api.PortId{Port: 1}, Requester: api.PortId{Port: 1}})
	expect(t, api.Message{Kind: 11, Source: api.PortId{Port: 1}})
}

// drawn returns a message of a kind. Nearly all of its fields are valid.
func drawn(next func() int, kind int) api.Message {
	l := ends()
	m, least, most := ordinary(kind), lowest(kind), highest(kind)
	for i, at := range places(&m)[1:] {
		low, high := *places(&least)[i+1], *places(&most)[i+1]
		*at = low + (next()<<32|next())&math.MaxInt%(high-low+1)
		switch next() % 64 {
		case 0:
			*at = l[next()%len(l)]
		case 1, 2, 3, 4:
			*at = low
		case 5, 6, 7, 8:
			*at = high
		}
	}
	return m
}

// P10.1 to P10.3: messages with fields of all kinds.
func TestDrawnMessages(t *testing.T) {
	next := numbers(1)
	valid := 0
	for i := range 60000 {
		m := drawn(next, kinds[i%6])
		if isMessage(m) {
			valid++
		}
		expect(t, m)
	}
	if valid < 10000 || valid > 58000 {
		t.Errorf("%d messages are valid", valid)
	}
}

// P10.3: every byte of an encoding has every value: other kinds, lengths, domains, signs, numbers out of range.
func TestChangedBytes(t *testing.T) {
	for _, sample := range samples() {
		b := encodingOf(sample)
		for i := range b {
			kept := b[i]
			for n := range 256 {
				b[i] = byte(n)
				expectDecoded(t, b)
			}
			b[i] = kept
		}
	}
}

// P10.3: the length in the header is neither ignored nor taken for that of the bytes.
func TestLengths(t *testing.T) {
	for _, sample := range samples() {
		b := encodingOf(sample)
		for length := range 65536 {
			binary.BigEndian.PutUint16(b[2:], uint16(length))
			if length == len(b) {
				expectDecoded(t, b)
			} else {
				expectForm(t, b)
			}
		}
		for size := range 300 {
			long := append(bytes.Clone(b[:min(size, len(b))]), make([]byte, max(0, size-len(b)))...)
			for _, stated := range []int{size, len(b)} {
				if size >= 4 {
					binary.BigEndian.PutUint16(long[2:], uint16(stated))
				}
				expectDecoded(t, long)
			}
		}
	}
}

// P10.3: numbers whose encodings have a field's bytes, but that are out of its range, and the ones around.
func TestDecodedRanges(t *testing.T) {
	for _, kind := range kinds {
		for at := 4; at < lengths[kind]; at++ {
			for _, n := range ends() {
				b := encodingOf(ordinary(kind))
				digits := binary.BigEndian.AppendUint64(nil, uint64(n))
				for octets := 1; octets <= min(8, len(b)-at); octets++ {
					copy(b[at:], digits[8-octets:])
					expectDecoded(t, b)
				}
			}
		}
	}
}

// P10.3: bytes of all short lengths.
func TestShortBytes(t *testing.T) {
	next := numbers(2)
	expectForm(t, nil)
	expectForm(t, []byte{})
	for size := range 80 {
		for kind := range 256 {
			zeros := make([]byte, size)
			ones := bytes.Repeat([]byte{255}, size)
			mixed := make([]byte, size)
			for i := range mixed {
				mixed[i] = byte(next() >> 13)
			}
			for _, b := range [][]byte{zeros, ones, mixed} {
				if size > 0 {
					b[0] = byte(kind)
				}
				expectDecoded(t, b)
				if size > 3 {
					b[2], b[3] = 0, byte(size)
				}
				expectDecoded(t, b)
			}
		}
	}
	expectForm(t, make([]byte, 1<<16+22))
}
