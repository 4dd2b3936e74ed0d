package merge

import (
	"encoding/binary"
	"hash/crc32"
	"math"
	"math/big"
	"slices"
	"strings"
	"testing"

	"isochron/api"
)

// numbers returns a function that gives numbers of 32 bits. Every seed has its own sequence.
func numbers(seed int) func() int {
	state := uint64(seed)*2862933555777941757 + 3037000493
	return func() int {
		state = state*6364136223846793005 + 1442695040888963407
		return int(state >> 32)
	}
}

// octets returns so many octets.
func octets(next func() int, size int) string {
	b := make([]byte, size)
	for i := range b {
		b[i] = byte(next() >> 13)
	}
	return string(b)
}

// What the check octets of sealed and marked strings differ from the CRC by.
const (
	seal = 0
	mark = 0xffff0000
)

// checksOf returns the octets of the CRC of s, exclusive or x.
func checksOf(s string, x uint32) string {
	return string(binary.LittleEndian.AppendUint32(nil, crc32.ChecksumIEEE([]byte(s))^x))
}

// sealed returns s followed by the octets of its CRC.
func sealed(s string) string {
	return s + checksOf(s, seal)
}

// marked returns s followed by the octets of its CRC exclusive or FFFF0000.
func marked(s string) string {
	return s + checksOf(s, mark)
}

// hasChecks reports whether s ends with the octets of the CRC of the others, exclusive or x.
func hasChecks(s string, x uint32) bool {
	return len(s) >= 4 && s[len(s)-4:] == checksOf(s[:len(s)-4], x)
}

// isFrame reports whether s is a whole frame, in the words of the chapter.
func isFrame(s string) bool {
	return len(s) >= 64 && len(s) <= 1522 && hasChecks(s, seal)
}

// areAllowed reports whether cuts are cuts of a frame of that size, in the words of the chapter.
func areAllowed(cuts []int, size int) bool {
	if len(cuts) == 0 {
		return true
	}
	for i := range len(cuts) - 1 {
		distance := new(big.Int).Sub(big.NewInt(int64(cuts[i+1])), big.NewInt(int64(cuts[i])))
		if distance.Cmp(big.NewInt(60)) < 0 {
			return false
		}
	}
	return cuts[0] >= 60 && cuts[len(cuts)-1] <= size-64
}

// piecesOf returns the pieces of s for cuts, whether they are allowed or not.
func piecesOf(s string, number int, cuts []int) []api.Piece {
	var l []api.Piece
	from, count := 0, 3
	for _, cut := range cuts {
		l = append(l, api.Piece{Number: number, Count: count & 3, Data: s[from:cut] + checksOf(s[:cut], mark)})
		from = cut
		count++
	}
	l = append(l, api.Piece{Number: number, Count: count & 3, Data: s[from:]})
	l[0].Start, l[0].Count = true, 0
	return l
}

// expectCut checks Cut, and that neither cuts nor the memory behind them are changed.
func expectCut(t *testing.T, s string, number int, cuts []int) {
	t.Helper()
	var want []api.Piece
	err := api.OK
	switch {
	case !isFrame(s):
		err = api.ErrForm
	case number < 0 || number > 3:
		err = api.ErrArg
	case !areAllowed(cuts, len(s)):
		err = api.ErrCuts
	default:
		want = piecesOf(s, number, cuts)
	}
	given := append(slices.Clone(cuts), 77)
	l, e := Cut(s, number, given[:len(cuts)])
	if e != err || !slices.Equal(l, want) {
		t.Errorf("Cut(%d octets, %d, %d) = %#v, %d, not %#v, %d", len(s), number, cuts, l, e, want, err)
	}
	if !slices.Equal(given, append(slices.Clone(cuts), 77)) {
		t.Errorf("Cut(%d octets, %d, %d) has changed the cuts to %d", len(s), number, cuts, given)
	}
	for _, p := range l {
		if e := CheckPiece(p); e != api.OK {
			t.Errorf("Cut(%d octets, %d, %d) gives %#v, which is not valid", len(s), number, cuts, p)
		}
	}
}

// isValidState reports whether m is valid, in the words of the chapter.
func isValidState(m api.Merge) bool {
	if !m.On {
		return m.Number == 0 && m.Next == 0 && m.Data == ""
	}
	return m.Number >= 0 && m.Number <= 3 && m.Next >= 0 && m.Next <= 3 && len(m.Data) >= 60 && len(m.Data) <= 1518
}

// isValidPiece reports whether p is valid, in the words of the chapter.
func isValidPiece(p api.Piece) bool {
	if p.Start && p.Count != 0 {
		return false
	}
	return p.Number >= 0 && p.Number <= 3 && p.Count >= 0 && p.Count <= 3 && len(p.Data) >= 64 && len(p.Data) <= 1522
}

// joined returns what Join returns, by the chapter's rules.
func joined(m api.Merge, p api.Piece) (api.Merge, string, api.Errno) {
	if !isValidState(m) {
		return api.Merge{}, "", api.ErrMerge
	}
	if !isValidPiece(p) {
		return api.Merge{}, "", api.ErrPiece
	}
	d := m.Data + p.Data
	if p.Start {
		d = p.Data
	}
	following := 0
	if !p.Start {
		following = []int{1, 2, 3, 0}[m.Next]
	}
	switch {
	case !p.Start && (!m.On || m.Number != p.Number || m.Next != p.Count):
		return api.Merge{}, "", api.OK
	case len(d) > 1522:
		return api.Merge{}, "", api.OK
	case hasChecks(d, seal):
		return api.Merge{}, d, api.OK
	case hasChecks(d, mark):
		return api.Merge{On: true, Number: p.Number, Next: following, Data: d[:len(d)-4]}, "", api.OK
	}
	return api.Merge{}, "", api.OK
}

// expectJoin checks Join and returns its next state and the frame.
func expectJoin(t *testing.T, m api.Merge, p api.Piece) (api.Merge, string) {
	t.Helper()
	next, frame, err := joined(m, p)
	n, f, e := Join(m, p)
	if n != next || f != frame || e != err {
		t.Errorf("Join(%#v, %#v) = %#v, %q, %d, not %#v, %q, %d", m, p, n, f, e, next, frame, err)
	}
	if Check(n) != api.OK {
		t.Errorf("Join(%#v, %#v) = %#v, which is not valid", m, p, n)
	}
	return n, f
}

// ends returns numbers at the ends of int, and around 0 and 4.
func ends() []int {
	return []int{math.MinInt, math.MinInt + 1, math.MinInt + 4, math.MinInt32, -257, -256, -5, -4, -3, -2, -1, 0, 1, 2, 3, 4, 5, 6, 7, 8, 256, 257, math.MaxInt32 + 1, math.MaxInt - 3, math.MaxInt}
}

// example returns the frame of the chapter's examples.
func example() string {
	b := make([]byte, 130)
	for i := range b {
		b[i] = byte(i)
	}
	return sealed(string(b))
}

// P8.1: the chapter's examples of Cut.
func TestExampleCuts(t *testing.T) {
	s := example()
	want := []api.Piece{
		{Start: true, Number: 2, Data: marked(s[:60])},
		{Number: 2, Data: s[60:]},
	}
	if l, e := Cut(s, 2, []int{60}); e != api.OK || !slices.Equal(l, want) || len(l[0].Data) != 64 || len(l[1].Data) != 74 {
		t.Errorf("Cut(s, 2, 60) = %#v, %d, not %#v", l, e, want)
	}
	for _, x := range []struct {
		s      string
		number int
		cuts   []int
		err    api.Errno
	}{
		{s, 0, []int{60, 70}, api.ErrCuts},
		{s, 0, []int{71}, api.ErrCuts},
		{s, 4, nil, api.ErrArg},
		{strings.Repeat("\x00", 134), 0, nil, api.ErrForm},
	} {
		if l, e := Cut(x.s, x.number, x.cuts); l != nil || e != x.err {
			t.Errorf("Cut(%q, %d, %d) = %#v, %d, not error %d", x.s, x.number, x.cuts, l, e, x.err)
		}
	}
}

// P8.3: the chapter's examples of Join.
func TestExampleJoins(t *testing.T) {
	s := example()
	start := api.Piece{Start: true, Number: 2, Data: marked(s[:60])}
	more := api.Piece{Number: 2, Data: s[60:]}
	other := more
	other.Number = 3
	begun := api.Merge{On: true, Number: 2, Data: s[:60]}
	for _, x := range []struct {
		m     api.Merge
		p     api.Piece
		next  api.Merge
		frame string
	}{
		{api.Merge{}, start, begun, ""},
		{begun, more, api.Merge{}, s},
		{api.Merge{}, more, api.Merge{}, ""},
		{begun, other, api.Merge{}, ""},
	} {
		if next, frame, e := Join(x.m, x.p); next != x.next || frame != x.frame || e != api.OK {
			t.Errorf("Join(%#v, %#v) = %#v, %q, %d, not %#v, %q", x.m, x.p, next, frame, e, x.next, x.frame)
		}
	}
}

// P8.1: sealed, marked and other strings of all sizes around the limits, with and without an invalid number and cuts.
func TestWholeFrames(t *testing.T) {
	next := numbers(1)
	for size := range 1600 {
		s := octets(next, size)
		for _, s := range []string{s, sealed(s), marked(s)} {
			expectCut(t, s, size&3, nil)
			if len(s) > 70 && len(s) < 1515 {
				continue
			}
			for _, number := range []int{-1, 0, 4} {
				for _, cuts := range [][]int{nil, {}, {0}, {59}, {60}, {60, 61}, {60, 120}, {2000}} {
					expectCut(t, s, number, cuts)
				}
			}
		}
	}
	expectCut(t, sealed(strings.Repeat("long", 1<<18)), 0, []int{60})
	expectCut(t, "", -1, []int{-1})
}

// P8.1: a change of any octet of a frame, or of its length.
func TestChangedFrames(t *testing.T) {
	s := example()
	for i := range s {
		b := []byte(s)
		b[i] ^= 1 << (i % 8)
		expectCut(t, string(b), 1, []int{65})
		expectCut(t, s[:i], 1, []int{65})
		expectCut(t, s[i:], 1, []int{65})
	}
	expectCut(t, s+"\x00", 1, []int{65})
	expectCut(t, "\x00"+s, 1, []int{65})
}

// P8.1: all pieces have the Number, which is from 0 to 3; other numbers come before cuts that are not allowed.
func TestNumbers(t *testing.T) {
	s := sealed(strings.Repeat("number", 60))
	for _, number := range ends() {
		for _, cuts := range [][]int{nil, {60}, {100, 160}, {100, 160, 220, 280}, {100, 159}, {math.MaxInt}, {math.MinInt}} {
			expectCut(t, s, number, cuts)
		}
	}
}

// P8.1: all single cuts of frames of many sizes.
func TestSingleCuts(t *testing.T) {
	next := numbers(2)
	for _, size := range []int{64, 65, 100, 120, 123, 124, 125, 126, 134, 184, 300, 1521, 1522} {
		s := sealed(octets(next, size-4))
		for cut := -70; cut < size+70; cut++ {
			expectCut(t, s, cut&3, []int{cut})
		}
	}
}

// P8.1: all pairs and triples of cuts that are about as far apart as they must be.
func TestShortParts(t *testing.T) {
	next := numbers(3)
	for size := 182; size < 188; size++ {
		s := sealed(octets(next, size-4))
		for a := 57; a < 64; a++ {
			for b := 55; b < 130; b++ {
				expectCut(t, s, 3, []int{a, b})
			}
		}
	}
	for size := 243; size < 248; size++ {
		s := sealed(octets(next, size-4))
		for a := 59; a < 63; a++ {
			for b := a + 58; b < a+63; b++ {
				for c := b + 58; c < b+64; c++ {
					expectCut(t, s, 0, []int{a, b, c})
				}
			}
		}
	}
}

// P8.1: the most pieces that a frame can have, and one too many; the Counts are modulo 4.
func TestManyCuts(t *testing.T) {
	next := numbers(4)
	for size := 1480; size <= 1522; size++ {
		s := sealed(octets(next, size-4))
		var cuts []int
		for cut := 60; cut < 1600; cut += 60 {
			cuts = append(cuts, cut)
			expectCut(t, s, 1, cuts)
		}
	}
	s := sealed(octets(next, 1518))
	cuts := []int{}
	for i := range 24 {
		cuts = append(cuts, 60*i+60)
	}
	l, e := Cut(s, 1, cuts)
	if e != api.OK || len(l) != 25 {
		t.Fatalf("%d pieces, %d", len(l), e)
	}
	for i, p := range l {
		if p.Start != (i == 0) || p.Number != 1 || i > 0 && p.Count != (i-1)%4 || i == 0 && p.Count != 0 {
			t.Errorf("piece %d is %#v", i, p)
		}
	}
	if len(l[23].Data) != 64 || len(l[24].Data) != 82 {
		t.Errorf("the last pieces have %d and %d octets", len(l[23].Data), len(l[24].Data))
	}
	long := make([]int, 1<<20)
	for i := range long {
		long[i] = 60*i + 60
	}
	expectCut(t, s, 1, long)
}

// P8.1: cuts that are far away, in every place, where differences or sums overflow; equal ones; and ones in another order.
func TestWrongCuts(t *testing.T) {
	s := sealed(octets(numbers(5), 400))
	far := append(ends(), math.MinInt+59, math.MinInt+60, math.MinInt+61, math.MaxInt-59, math.MaxInt-60, math.MaxInt-61, math.MaxInt-64)
	for _, x := range far {
		expectCut(t, s, 0, []int{x})
		for _, y := range far {
			expectCut(t, s, 0, []int{x, y})
			for i := range 3 {
				cuts := []int{100, 200, 300}
				cuts[i] = x
				expectCut(t, s, 0, cuts)
				cuts[(i+1)%3] = y
				expectCut(t, s, 0, cuts)
			}
		}
	}
	for _, cuts := range [][]int{{100, 100}, {200, 100}, {100, 300, 200}, {300, 200, 100}, {100, 200, 200, 300}, {100, 200, 100}, {100, 200, 300, 341}, {100, 200, 300, 400}} {
		expectCut(t, s, 2, cuts)
	}
}

// someCuts returns cuts of a frame of that size.
func someCuts(next func() int, size int) []int {
	var cuts []int
	spread := 1 + next()%400
	for cut := 60 + next()%spread; cut <= size-64; cut += 60 + next()%spread {
		cuts = append(cuts, cut)
	}
	return cuts
}

// P8.1: any cuts of frames of any size, and the same with one of them moved a little.
func TestMixedCuts(t *testing.T) {
	next := numbers(6)
	for range 5000 {
		s := sealed(octets(next, 60+next()%1459))
		cuts := someCuts(next, len(s))
		expectCut(t, s, next()&3, cuts)
		if len(cuts) > 0 {
			cuts[next()%len(cuts)] += next()%121 - 60
			expectCut(t, s, next()&3, cuts)
		}
	}
}

// R3, R5: a second call returns the same, and not the memory of the first one.
func TestSeparateResults(t *testing.T) {
	s, cuts := example(), []int{62}
	first, _ := Cut(s, 1, cuts)
	want := slices.Clone(first)
	second, _ := Cut(s, 1, cuts)
	for i := range first {
		first[i] = api.Piece{}
	}
	if !slices.Equal(second, want) {
		t.Errorf("the second call's result is %#v after a change of the first one's, not %#v", second, want)
	}
}

// P8.2: states with every combination of fields at and beyond their limits.
func TestCheck(t *testing.T) {
	for _, on := range []bool{false, true} {
		for _, number := range ends() {
			for _, n := range ends() {
				for _, size := range []int{0, 1, 4, 56, 59, 60, 61, 64, 1000, 1514, 1517, 1518, 1519, 1522, 100000} {
					m := api.Merge{On: on, Number: number, Next: n, Data: strings.Repeat("\x00", size)}
					want := api.ErrMerge
					if isValidState(m) {
						want = api.OK
					}
					if e := Check(m); e != want {
						t.Errorf("Check of On %t, Number %d, Next %d, %d octets is %d, not %d", on, number, n, size, e, want)
					}
				}
			}
		}
	}
}

// P8.2: pieces with every combination of fields at and beyond their limits.
func TestCheckPiece(t *testing.T) {
	for _, start := range []bool{false, true} {
		for _, number := range ends() {
			for _, count := range ends() {
				for _, size := range []int{0, 1, 4, 60, 63, 64, 65, 68, 1000, 1518, 1521, 1522, 1523, 1526, 100000} {
					p := api.Piece{Start: start, Number: number, Count: count, Data: strings.Repeat("\xff", size)}
					want := api.ErrPiece
					if isValidPiece(p) {
						want = api.OK
					}
					if e := CheckPiece(p); e != want {
						t.Errorf("CheckPiece of Start %t, Number %d, Count %d, %d octets is %d, not %d", start, number, count, size, e, want)
					}
				}
			}
		}
	}
}

// states returns the zero state and valid states with all numbers, with that many octets.
func states(next func() int, size int) []api.Merge {
	l := []api.Merge{{}}
	for i := range 16 {
		l = append(l, api.Merge{On: true, Number: i & 3, Next: i >> 2, Data: octets(next, size)})
	}
	return l
}

// P8.3: from every kind of state, pieces with all numbers, after which all octets are sealed, marked, or neither.
func TestJoin(t *testing.T) {
	next := numbers(7)
	for _, size := range []int{60, 61, 130, 1454} {
		for _, m := range states(next, size) {
			for _, more := range []int{60, 100} {
				part := octets(next, more)
				whole := []string{sealed(m.Data + part), marked(m.Data + part), sealed(m.Data + part[:more-1] + "x"), m.Data + sealed(part), m.Data + marked(part), m.Data + part + "none"}
				for _, d := range whole {
					for i := range 16 {
						expectJoin(t, m, api.Piece{Number: i & 3, Count: i >> 2, Data: d[len(m.Data):]})
					}
				}
				for i := range 4 {
					for _, d := range append(whole, sealed(part), marked(part), part+"none", sealed(m.Data + part)[len(m.Data):]) {
						expectJoin(t, m, api.Piece{Start: true, Number: i, Data: d})
						expectJoin(t, m, api.Piece{Start: true, Number: i, Count: 1, Data: d})
					}
				}
			}
		}
	}
}

// P8.3: a continuation with which there are as many octets as a frame may have, and one more, whatever the sizes of the state and the piece.
func TestLongest(t *testing.T) {
	next := numbers(8)
	for size := 60; size <= 1518; size++ {
		data := octets(next, size)
		for total := 1520; total <= 1525; total++ {
			more := total - 4 - size
			if more < 60 {
				continue
			}
			m := api.Merge{On: true, Number: 3, Next: size & 3, Data: data}
			part := octets(next, more)
			for _, check := range []uint32{seal, mark, 1} {
				expectJoin(t, m, api.Piece{Number: 3, Count: size & 3, Data: part + checksOf(data+part, check)})
			}
		}
		m := api.Merge{On: true, Data: data}
		expectJoin(t, m, api.Piece{Data: sealed(data + octets(next, 1518))[size:]})
	}
	data, part := octets(next, 1458), octets(next, 60)
	m := api.Merge{On: true, Data: data}
	if n, frame, e := Join(m, api.Piece{Data: sealed(data + part)[1458:]}); n != (api.Merge{}) || len(frame) != 1522 || e != api.OK {
		t.Errorf("a frame of 1522 octets: %#v, %q, %d", n, frame, e)
	}
	if n, frame, e := Join(m, api.Piece{Data: marked(data + part)[1458:]}); !n.On || n.Next != 1 || len(n.Data) != 1518 || frame != "" || e != api.OK {
		t.Errorf("1518 octets of a frame: %#v, %q, %d", n, frame, e)
	}
}

// P8.3: whole frames of all sizes in one piece, and marked strings of all sizes, from any state.
func TestStarts(t *testing.T) {
	next := numbers(9)
	for size := 50; size < 1530; size++ {
		s := octets(next, size)
		for _, m := range []api.Merge{{}, {On: true, Number: size & 3, Next: size >> 2 & 3, Data: octets(next, 60+next()%1459)}} {
			for _, d := range []string{sealed(s), marked(s), s} {
				expectJoin(t, m, api.Piece{Start: true, Number: size & 3, Data: d})
				expectJoin(t, m, api.Piece{Start: true, Number: next() & 3, Data: d})
			}
		}
	}
}

// P8.3: invalid states, then invalid pieces, which neither begin, continue nor complete a frame.
func TestInvalidJoins(t *testing.T) {
	s := example()
	begun := api.Merge{On: true, Data: s[:60]}
	start := api.Piece{Start: true, Data: s}
	more := api.Piece{Data: s[60:]}
	for _, x := range ends() {
		invalid := []api.Merge{
			{On: true, Number: x, Data: s[:60]},
			{On: true, Next: x, Data: s[:60]},
			{On: true, Data: s[:59]},
			{On: true, Data: strings.Repeat("x", 1519)},
			{On: true},
			{Number: x},
			{Next: x},
			{Data: s[:60]},
			{Number: x, Next: x, Data: s},
		}
		pieces := []api.Piece{
			start,
			more,
			{Number: x, Data: s[60:]},
			{Count: x, Data: s[60:]},
			{Start: true, Number: x, Data: s},
			{Start: true, Count: x, Data: s},
			{Start: true, Data: s[:63]},
			{Data: s[71:]},
			{Data: strings.Repeat("x", 1523)},
			{},
			{Start: true},
		}
		for _, m := range append(invalid, begun, api.Merge{}) {
			for _, p := range pieces {
				expectJoin(t, m, p)
			}
		}
	}
}
