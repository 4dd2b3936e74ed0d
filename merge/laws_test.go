package merge

import (
	"encoding/binary"
	"hash/crc32"
	"slices"
	"testing"

	"isochron/api"
)

// leading returns the four octets after which a string with the CRC from has the CRC to.
func leading(from, to uint32) string {
	r := ^to
	for range 32 {
		if r>>31 == 1 {
			r = (r^0xedb88320)<<1 | 1
		} else {
			r <<= 1
		}
	}
	return string(binary.LittleEndian.AppendUint32(nil, r^^from))
}

// common is the CRC of every string that alike leaves off at a cut.
const common = 0x12345678

// alike returns a frame with that many cuts, whose octets up to any cut have the CRC common. Pieces of such frames fit together by their check octets in any order: nothing but their numbers tells them apart.
func alike(next func() int, cuts int) (string, []int) {
	s := ""
	var l []int
	for range cuts {
		s += octets(next, 56+next()%8)
		s += leading(crc32.ChecksumIEEE([]byte(s)), common)
		l = append(l, len(s))
	}
	return sealed(s + octets(next, 60+next()%8)), l
}

// cutAlike returns a frame that alike gives, and its pieces with that number.
func cutAlike(t *testing.T, next func() int, number, cuts int) (string, []api.Piece) {
	t.Helper()
	s, l := alike(next, cuts)
	pieces, e := Cut(s, number, l)
	if e != api.OK || len(pieces) != cuts+1 {
		t.Fatalf("Cut(%q, %d, %d) = %#v, %d", s, number, l, pieces, e)
	}
	return s, pieces
}

// anyState returns some valid state.
func anyState(next func() int) api.Merge {
	if next()&7 == 0 {
		return api.Merge{}
	}
	return api.Merge{On: true, Number: next() & 3, Next: next() & 3, Data: octets(next, 60+next()%1459)}
}

// expectWhole joins the pieces of s in order.
func expectWhole(t *testing.T, m api.Merge, s string, pieces []api.Piece) {
	t.Helper()
	for i, p := range pieces {
		next, frame, e := Join(m, p)
		switch {
		case e != api.OK:
			t.Errorf("Join(%#v, %#v) is the error %d", m, p, e)
		case i == len(pieces)-1 && (frame != s || next != api.Merge{}):
			t.Errorf("the last of %d pieces, %#v, gives %q and %#v, not the frame %q", len(pieces), p, frame, next, s)
		case i < len(pieces)-1 && (frame != "" || !next.On):
			t.Errorf("piece %d of %d, %#v, gives %q and %#v", i, len(pieces), p, frame, next)
		}
		m = next
	}
}

// P8.4: the pieces of a frame, joined in order from any valid state, yield it at the last piece.
func TestJoinInverts(t *testing.T) {
	next := numbers(11)
	for range 3000 {
		s := sealed(octets(next, 60+next()%1459))
		pieces, e := Cut(s, next()&3, someCuts(next, len(s)))
		if e != api.OK {
			t.Fatal(e)
		}
		expectWhole(t, anyState(next), s, pieces)
	}
	for cuts := range 22 {
		for number := range 4 {
			s, pieces := cutAlike(t, next, number, cuts)
			expectWhole(t, anyState(next), s, pieces)
			// From the states in which any piece could have been left out.
			expectWhole(t, api.Merge{On: true, Number: number, Next: cuts & 3, Data: s[:60]}, s, pieces)
		}
	}
}

// P8.4: frames that follow one another are all yielded, with the numbers 0, 1, 2, 3, 0 and so on.
func TestStreamOfFrames(t *testing.T) {
	next := numbers(12)
	m := api.Merge{}
	for i := range 2000 {
		s := sealed(octets(next, 60+next()%600))
		pieces, _ := Cut(s, i&3, someCuts(next, len(s)))
		for j, p := range pieces {
			var frame string
			m, frame = expectJoin(t, m, p)
			if (j == len(pieces)-1) != (frame == s) {
				t.Errorf("frame %d, piece %d of %d: %q", i, j, len(pieces), frame)
			}
		}
	}
}

// expectAmong joins pieces, and checks that all frames are among those that were cut; it returns how many there are.
func expectAmong(t *testing.T, frames []string, pieces []api.Piece) int {
	t.Helper()
	m, found := api.Merge{}, 0
	for _, p := range pieces {
		var frame string
		m, frame = expectJoin(t, m, p)
		if frame == "" {
			continue
		}
		found++
		if !slices.Contains(frames, frame) {
			t.Errorf("%q, which ends with %#v, is none of the frames", frame, p)
		}
	}
	return found
}

// P8.4: all sequences of up to six pieces of two frames that have three pieces each.
func TestAllSequences(t *testing.T) {
	next := numbers(13)
	s, l := cutAlike(t, next, 0, 2)
	u, k := cutAlike(t, next, 1, 2)
	pieces := append(l, k...)
	found := 0
	for n := range 6 * 6 * 6 * 6 * 6 * 6 {
		var sequence []api.Piece
		for range 6 {
			sequence = append(sequence, pieces[n%6])
			n /= 6
		}
		found += expectAmong(t, []string{s, u}, sequence)
	}
	if found == 0 {
		t.Error("no sequence gave a frame")
	}
}

// mixed returns pieces that come mostly in order, but are also lost, repeated, and put elsewhere.
func mixed(next func() int, pieces []api.Piece) []api.Piece {
	var l []api.Piece
	at := 0
	for range 60 {
		switch next() % 8 {
		case 0:
			at++
		case 1:
			at = max(0, at-1)
		case 2:
			at = next()
		}
		l = append(l, pieces[at%len(pieces)])
		at++
	}
	return l
}

// P8.4: pieces of four frames with up to four continuations each, lost, repeated and reordered.
func TestLostAndRepeated(t *testing.T) {
	next := numbers(14)
	found := 0
	for range 500 {
		var frames []string
		var pieces []api.Piece
		for number := range 4 {
			s, l := cutAlike(t, next, number, next()%5)
			frames, pieces = append(frames, s), append(pieces, l...)
		}
		for range 4 {
			found += expectAmong(t, frames, mixed(next, pieces))
		}
		for range 4 {
			l := slices.Clone(pieces)
			for i := range l {
				j := next() % (i + 1)
				l[i], l[j] = l[j], l[i]
			}
			found += expectAmong(t, frames, l)
		}
	}
	if found < 500 {
		t.Errorf("only %d frames", found)
	}
}

// P8.3: a fifth continuation has the Count of the first one: what is missing between them is not noticed, if the CRC does not show it.
func TestFifthContinuation(t *testing.T) {
	s, l := cutAlike(t, numbers(15), 2, 5)
	short := s[:len(l[0].Data)-4] + l[5].Data
	m, _ := expectJoin(t, api.Merge{}, l[0])
	if m, frame := expectJoin(t, m, l[5]); m != (api.Merge{}) || frame != short {
		t.Errorf("the start and the last piece give %#v and %q, not %q", m, frame, short)
	}
}

// P8.4: whatever the pieces are, and the state before them, every frame that is returned is a whole one.
func TestArbitraryPieces(t *testing.T) {
	next := numbers(16)
	found, longest := 0, 0
	for range 300 {
		_, some := cutAlike(t, next, 0, 1+next()%9)
		m := anyState(next)
		for range 300 {
			p := some[next()%len(some)]
			switch {
			case p.Start && m.On && next()&7 > 0:
				p = some[1]
			case p.Start:
				p.Number = next() & 3
			}
			if !p.Start {
				p.Number, p.Count = m.Number, m.Next
			}
			switch next() & 31 {
			case 0:
				p.Number = next() & 3
			case 1:
				p.Count = next() & 3
			}
			var frame string
			m, frame = expectJoin(t, m, p)
			if frame != "" && !isFrame(frame) {
				t.Errorf("%q, which ends with %#v, is not whole", frame, p)
			}
			if frame != "" {
				found++
				longest = max(longest, len(frame))
			}
		}
	}
	if found < 1000 || longest < 1400 {
		t.Errorf("only %d frames of up to %d octets", found, longest)
	}
}

// R5: a call does not depend on those before it.
func TestRepeatedCalls(t *testing.T) {
	s, l := cutAlike(t, numbers(17), 3, 2)
	m, _, _ := Join(api.Merge{}, l[0])
	n, _, _ := Join(m, l[1])
	for range 3 {
		if x, frame, e := Join(m, l[1]); x != n || frame != "" || e != api.OK {
			t.Errorf("a continuation: %#v, %q, %d", x, frame, e)
		}
		if x, frame, e := Join(n, l[2]); x != (api.Merge{}) || frame != s || e != api.OK {
			t.Errorf("the last piece: %#v, %q, %d", x, frame, e)
		}
		if x, frame, e := Join(n, l[1]); x != (api.Merge{}) || frame != "" || e != api.OK {
			t.Errorf("a repeated continuation: %#v, %q, %d", x, frame, e)
		}
	}
}
