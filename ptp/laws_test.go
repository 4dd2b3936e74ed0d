package ptp

import (
	"bytes"
	"testing"

	"isochron/api"
)

// P10.4: Decode inverts Encode, and encoding again gives the same bytes.
func TestInverse(t *testing.T) {
	next := numbers(3)
	for i := range 60000 {
		m := drawn(next, kinds[i%6])
		b, e := Encode(m)
		if e != Check(m) || len(b) > 0 != (e == api.OK) {
			t.Errorf("Encode(%+v) = % x, %d", m, b, e)
		}
		if e != api.OK {
			continue
		}
		if len(b) != Size(m.Kind) {
			t.Errorf("Encode(%+v) has %d bytes, not %d", m, len(b), Size(m.Kind))
		}
		got, e := Decode(b)
		if got != m || e != api.OK {
			t.Errorf("Decode(Encode(%+v)) = %+v, %d", m, got, e)
		}
		if again, e := Encode(got); !bytes.Equal(again, b) || e != api.OK {
			t.Errorf("Encode(%+v) = % x, %d, not % x", got, again, e, b)
		}
	}
}

// P10.4: no proper prefix of an encoding is one, and no encoding followed by further bytes.
func TestPrefixes(t *testing.T) {
	for _, m := range samples() {
		b, _ := Encode(m)
		for size := range b {
			expectForm(t, b[:size])
		}
		for _, o := range samples() {
			further, _ := Encode(o)
			for size := 1; size <= len(further); size++ {
				expectForm(t, append(bytes.Clone(b), further[:size]...))
			}
		}
		for size := 1; size < 50; size++ {
			expectForm(t, append(bytes.Clone(b), make([]byte, size)...))
			expectForm(t, append(bytes.Clone(b), bytes.Repeat([]byte{255}, size)...))
		}
	}
}

// P10.4: different valid messages have different encodings, also if they differ in a single field by 1 or in their kind.
func TestDifferent(t *testing.T) {
	seen := map[string]api.Message{}
	note := func(m api.Message) {
		b, e := Encode(m)
		if e != api.OK {
			return
		}
		if o, ok := seen[string(b)]; ok && o != m {
			t.Errorf("%+v and %+v have the encoding % x", o, m, b)
		}
		seen[string(b)] = m
	}
	for _, sample := range samples() {
		m := sample
		for _, at := range places(&m) {
			kept := *at
			for power := range 49 {
				for _, n := range []int{kept + 1<<power, kept - 1<<power, kept ^ 1<<power, -kept} {
					*at = n
					note(m)
				}
			}
			*at = kept
			note(m)
		}
	}
	if len(seen) < 1000 {
		t.Errorf("only %d encodings", len(seen))
	}
}

// R3: bytes that are decoded are not written, nor the capacity behind them, and those behind them do not matter.
func TestUnwritten(t *testing.T) {
	for _, m := range samples() {
		b := append(encodingOf(m), 1, 2, 3)
		whole := bytes.Clone(b)
		for size := range len(b) {
			expectDecoded(t, b[:size])
		}
		if !bytes.Equal(b, whole) {
			t.Errorf("Decode changed % x to % x", whole, b)
		}
	}
}

// R3, R5: an encoding that was returned is not changed by later calls or by changes of other encodings.
func TestSeparate(t *testing.T) {
	for _, m := range samples() {
		first, _ := Encode(m)
		second, _ := Encode(m)
		for i := range second {
			second[i] ^= 255
		}
		_ = append(second, 7)
		if third, e := Encode(m); !bytes.Equal(first, encodingOf(m)) || !bytes.Equal(third, first) || e != api.OK {
			t.Errorf("Encode(%+v) = % x, then % x", m, first, third)
		}
	}
}

// R5: what a call returns does not depend on the calls before it, failed ones among them.
func TestRepeated(t *testing.T) {
	for range 3 {
		for _, m := range samples() {
			expect(t, m)
			bad := m
			bad.Source.Port = 0
			expect(t, bad)
			expectForm(t, encodingOf(m)[:21])
			expectForm(t, nil)
			expectMaster(t, m.Master)
			expectMaster(t, api.Master{Id: -1})
		}
	}
}
