package wire

import (
	"math"
	"math/big"
	"slices"
	"strings"
	"testing"

	"isochron/api"
)

// numbers returns a function that gives integers of all lengths and both signs. Every seed has its own sequence.
func numbers(seed int) func() int {
	state := uint64(seed)*2862933555777941757 + 3037000493
	next := func() uint64 {
		state = state*6364136223846793005 + 1442695040888963407
		return state >> 32
	}
	return func() int {
		n := int(next()<<32 | next())
		return n >> (next() % 64)
	}
}

// power is 256^k.
func power(k int) *big.Int {
	return new(big.Int).Lsh(big.NewInt(1), uint(8*k))
}

// edges are the integers at which something changes: around 0, around 256^k and 256^k / 2, at the ends of int, and with digits that are all different; and mixed ones.
func edges() []int {
	l := []int{0, math.MaxInt, math.MaxInt - 1, math.MinInt, math.MinInt + 1, 0x0102030405060708, 0x7ffefdfcfbfaf9f8, -0x0102030405060708, 0x00800081fe7f0100, 0x0a0d20c3a9ff, 1 << 61, -1 << 61}
	for k := range 8 {
		for _, n := range []int{1 << (8 * k), 1 << (8*k + 7)} {
			for _, d := range []int{-2, -1, 0, 1, 2} {
				l = append(l, n+d, -n+d)
			}
		}
	}
	next := numbers(1)
	for range 3000 {
		l = append(l, next())
	}
	return l
}

// beyond are counts of octets that no encoding has, up to the ends of int; some become valid if they are cut to 32 bits or multiplied by 8.
func beyond() []int {
	return []int{0, -1, -2, -7, -8, -255, 9, 10, 16, 63, 64, 255, 256, 1<<32 + 1, 1<<32 + 8, 1<<61 + 1, 1<<61 + 7, 1<<61 + 8, 1 << 62, math.MaxInt - 1, math.MaxInt, math.MinInt, math.MinInt + 1}
}

// negatives are offsets before every string, up to the end of int.
func negatives() []int {
	return []int{-1, -2, -3, -8, -255, -1 << 32, -1<<32 + 1, math.MinInt + 1, math.MinInt}
}

// surroundings are strings before and after encodings: empty, text, and octets that are no text.
func surroundings() []string {
	return []string{"", "x", "\x00", "\xff", "\x80\x80", "caf\xc3\xa9", "\xc3", "\xff\x00\xff\x00\xff\x00\xff\x00\xff", strings.Repeat("\x7f\x80", 20)}
}

// form is one of the two kinds of encodings, with its definition in exact arithmetic.
type form struct {
	name     string
	most     int
	negative bool // whether integers may be negative
	put      func(s string, n, octets int) (string, api.Errno)
	get      func(s string, at, octets int) (int, api.Errno)
	// value is the integer whose big-endian encoding is that of n in so many octets, or nil if n has none.
	value func(n, octets int) *big.Int
}

func unsigned() form {
	return form{"unsigned", 7, false, Put, Get, func(n, octets int) *big.Int {
		v := big.NewInt(int64(n))
		if v.Cmp(power(octets)) >= 0 {
			return nil
		}
		return v
	}}
}

func signed() form {
	return form{"signed", 8, true, PutSigned, GetSigned, func(n, octets int) *big.Int {
		v := big.NewInt(int64(n))
		half := new(big.Int).Rsh(power(octets), 1)
		if v.Cmp(half) >= 0 || v.Cmp(new(big.Int).Neg(half)) < 0 {
			return nil
		}
		if n < 0 {
			v.Add(v, power(octets))
		}
		return v
	}}
}

// forms are both kinds.
func forms() []form { return []form{unsigned(), signed()} }

// encoding is the big-endian encoding of v, which is less than 256^octets.
func encoding(v *big.Int, octets int) string {
	return string(v.FillBytes(make([]byte, octets)))
}

// refused checks that get or put gives the wanted error and nothing else.
func refused[T comparable](t *testing.T, f func(s string, a, b int) (T, api.Errno), s string, a, b int, want api.Errno) {
	t.Helper()
	var zero T
	if got, e := f(s, a, b); got != zero || e != want {
		t.Errorf("(%q, %d, %d) gives %#v and the error %d, want the error %d", s, a, b, got, e, want)
	}
}

// P5.1 and P5.3: examples.
func TestPutExamples(t *testing.T) {
	for _, x := range []struct {
		put       func(s string, n, octets int) (string, api.Errno)
		s         string
		n, octets int
		want      string
		e         api.Errno
	}{
		{Put, "\xab", 258, 3, "\xab\x00\x01\x02", api.OK},
		{Put, "", 256, 1, "", api.ErrBig},
		{Put, "\xab", 256, 1, "", api.ErrBig},
		{Put, "", 255, 1, "\xff", api.OK},
		{Put, "", 0, 1, "\x00", api.OK},
		{Put, "ab", 0, 7, "ab\x00\x00\x00\x00\x00\x00\x00", api.OK},
		{Put, "", 1<<56 - 1, 7, "\xff\xff\xff\xff\xff\xff\xff", api.OK},
		{Put, "", 1 << 56, 7, "", api.ErrBig},
		{Put, "", math.MaxInt, 7, "", api.ErrBig},
		{Put, "", 0x01020304050607, 7, "\x01\x02\x03\x04\x05\x06\x07", api.OK},
		{Put, "", 1, 8, "", api.ErrArg},
		{Put, "", 1, 0, "", api.ErrArg},
		{Put, "", 0, 0, "", api.ErrArg},
		{Put, "", -1, 1, "", api.ErrArg},
		{Put, "", -1, 7, "", api.ErrArg},
		{Put, "", math.MinInt, 1, "", api.ErrArg},
		{Put, "", math.MaxInt, 8, "", api.ErrArg},
		{PutSigned, "", -2, 2, "\xff\xfe", api.OK},
		{PutSigned, "", 128, 1, "", api.ErrBig},
		{PutSigned, "", 127, 1, "\x7f", api.OK},
		{PutSigned, "", -128, 1, "\x80", api.OK},
		{PutSigned, "", -129, 1, "", api.ErrBig},
		{PutSigned, "", -129, 2, "\xff\x7f", api.OK},
		{PutSigned, "", 128, 2, "\x00\x80", api.OK},
		{PutSigned, "ab", 0, 1, "ab\x00", api.OK},
		{PutSigned, "\xab", -1, 8, "\xab\xff\xff\xff\xff\xff\xff\xff\xff", api.OK},
		{PutSigned, "", math.MaxInt, 8, "\x7f\xff\xff\xff\xff\xff\xff\xff", api.OK},
		{PutSigned, "", math.MinInt, 8, "\x80\x00\x00\x00\x00\x00\x00\x00", api.OK},
		{PutSigned, "", math.MaxInt, 7, "", api.ErrBig},
		{PutSigned, "", math.MinInt, 7, "", api.ErrBig},
		{PutSigned, "", 1, 9, "", api.ErrArg},
		{PutSigned, "", -1, 0, "", api.ErrArg},
	} {
		if got, e := x.put(x.s, x.n, x.octets); got != x.want || e != x.e {
			t.Errorf("put(%q, %d, %d) = %q, %d, want %q, %d", x.s, x.n, x.octets, got, e, x.want, x.e)
		}
	}
}

// P5.2 and P5.3: examples.
func TestGetExamples(t *testing.T) {
	for _, x := range []struct {
		get        func(s string, at, octets int) (int, api.Errno)
		s          string
		at, octets int
		want       int
		e          api.Errno
	}{
		{Get, "\xab\x00\x01\x02", 1, 3, 258, api.OK},
		{Get, "\xab", 0, 2, 0, api.ErrForm},
		{Get, "\xab", -1, 1, 0, api.ErrArg},
		{Get, "\xab", 0, 8, 0, api.ErrArg},
		{Get, "\xab\xcd\xef\x01\x02\x03\x04\x05", 0, 8, 0, api.ErrArg},
		{Get, "\xab", 0, 0, 0, api.ErrArg},
		{Get, "\xab", 0, 1, 0xab, api.OK},
		{Get, "\xab", 1, 1, 0, api.ErrForm},
		{Get, "", 0, 1, 0, api.ErrForm},
		{Get, "\xff\xff\xff\xff\xff\xff\xff", 0, 7, 1<<56 - 1, api.OK},
		{Get, "\x01\x02\x03\x04\x05\x06\x07\x08\x09", 1, 7, 0x02030405060708, api.OK},
		{GetSigned, "\xff\xfe", 0, 2, -2, api.OK},
		{GetSigned, "\x7f", 0, 1, 127, api.OK},
		{GetSigned, "\x80", 0, 1, -128, api.OK},
		{GetSigned, "\x00\x80", 0, 2, 128, api.OK},
		{GetSigned, "\x80\x00\x80", 1, 2, 128, api.OK},
		{GetSigned, "\x7f\xff\x7f", 1, 2, -129, api.OK},
		{GetSigned, "\x7f\xff\xff\xff\xff\xff\xff\xff", 0, 8, math.MaxInt, api.OK},
		{GetSigned, "\x80\x00\x00\x00\x00\x00\x00\x00", 0, 8, math.MinInt, api.OK},
		{GetSigned, "\xff\xff\xff\xff\xff\xff\xff", 0, 8, 0, api.ErrForm},
		{GetSigned, "\xff\xff\xff\xff\xff\xff\xff\xff\xff", 0, 9, 0, api.ErrArg},
		{GetSigned, "\xff", -1, 1, 0, api.ErrArg},
	} {
		if got, e := x.get(x.s, x.at, x.octets); got != x.want || e != x.e {
			t.Errorf("get(%q, %d, %d) = %d, %d, want %d, %d", x.s, x.at, x.octets, got, e, x.want, x.e)
		}
	}
}

// P5.4: examples.
func TestFieldExamples(t *testing.T) {
	for _, x := range []struct {
		s          string
		at, octets int
		want       string
		e          api.Errno
	}{
		{"\xab\xcd\xef", 1, 2, "\xcd\xef", api.OK},
		{"\xab", 1, 0, "", api.OK},
		{"\xab", 1, 1, "", api.ErrForm},
		{"\xab", 2, 0, "", api.ErrForm},
		{"\xab", 0, 1, "\xab", api.OK},
		{"\xab", 0, 2, "", api.ErrForm},
		{"", 0, 0, "", api.OK},
		{"", 0, 1, "", api.ErrForm},
		{"", 1, 0, "", api.ErrForm},
		{"caf\xc3\xa9", 4, 1, "\xa9", api.OK},
		{"\xab", -1, 1, "", api.ErrArg},
		{"\xab", 1, -1, "", api.ErrArg},
		{"\xab", -1, -1, "", api.ErrArg},
		{"\xab", 5, -1, "", api.ErrArg},
		{"\xab", -1, 5, "", api.ErrArg},
	} {
		if got, e := Field(x.s, x.at, x.octets); got != x.want || e != x.e {
			t.Errorf("Field(%q, %d, %d) = %q, %d, want %q, %d", x.s, x.at, x.octets, got, e, x.want, x.e)
		}
	}
}

// P5.1 to P5.3: the definition, for all integers that have an encoding in one or two octets, and those around.
func TestShort(t *testing.T) {
	for n := -1 << 17; n <= 1<<17; n++ {
		for octets := 1; octets <= 2; octets++ {
			checkForms(t, n, octets)
		}
	}
}

// P5.1 to P5.3: the definition, for the edges in all counts of octets.
func TestEdges(t *testing.T) {
	for _, n := range edges() {
		for octets := 1; octets <= 8; octets++ {
			checkForms(t, n, octets)
		}
	}
}

// checkForms compares both forms with their definition.
func checkForms(t *testing.T, n, octets int) {
	t.Helper()
	for _, f := range forms() {
		if octets > f.most || n < 0 && !f.negative {
			refused(t, f.put, "x", n, octets, api.ErrArg)
			continue
		}
		v := f.value(n, octets)
		if v == nil {
			refused(t, f.put, "x", n, octets, api.ErrBig)
			continue
		}
		want := encoding(v, octets)
		if got, e := f.put("x", n, octets); got != "x"+want || e != api.OK {
			t.Errorf("%s put of %d in %d octets = %q, %d, want x%q", f.name, n, octets, got, e, want)
		}
		if got, e := f.get(want, 0, octets); got != n || e != api.OK {
			t.Errorf("%s get of %q = %d, %d, want %d", f.name, want, got, e, n)
		}
	}
}

// P5.1 and P5.3: invalid counts of octets come before integers that are too big.
func TestPutInvalid(t *testing.T) {
	for _, s := range surroundings() {
		for _, octets := range beyond() {
			for _, n := range []int{0, 1, -1, 127, 128, 255, 256, math.MaxInt, math.MinInt} {
				refused(t, Put, s, n, octets, api.ErrArg)
				refused(t, PutSigned, s, n, octets, api.ErrArg)
			}
		}
		for _, n := range negatives() {
			for octets := 1; octets <= 7; octets++ {
				refused(t, Put, s, n, octets, api.ErrArg)
			}
		}
		refused(t, Put, s, 0, 8, api.ErrArg)
		refused(t, Put, s, math.MaxInt, 8, api.ErrArg)
	}
}

// P5.2 and P5.3: invalid arguments come before strings that are too short.
func TestGetInvalid(t *testing.T) {
	for _, f := range forms() {
		for _, s := range surroundings() {
			for _, octets := range append(beyond(), f.most+1) {
				for _, at := range []int{0, 1, len(s), len(s) + 1, math.MaxInt, -1} {
					refused(t, f.get, s, at, octets, api.ErrArg)
				}
			}
			for _, at := range negatives() {
				for octets := 1; octets <= f.most; octets++ {
					refused(t, f.get, s, at, octets, api.ErrArg)
				}
			}
		}
	}
}

// P5.2 and P5.3: offsets around the end of the string and at the end of int, where the sum of the arguments overflows.
func TestGetForm(t *testing.T) {
	for _, f := range forms() {
		for _, s := range surroundings() {
			for octets := 1; octets <= f.most; octets++ {
				for at := max(0, len(s)-20); at < len(s)+20; at++ {
					if at+octets > len(s) {
						refused(t, f.get, s, at, octets, api.ErrForm)
					} else if _, e := f.get(s, at, octets); e != api.OK {
						t.Errorf("%s get(%q, %d, %d): error %d", f.name, s, at, octets, e)
					}
				}
				for _, at := range []int{1 << 32, 1 << 62, math.MaxInt - 8, math.MaxInt - octets, math.MaxInt - octets + 1, math.MaxInt} {
					refused(t, f.get, s, at, octets, api.ErrForm)
				}
			}
		}
	}
}

// P5.4: all fields of strings, octet by octet, and those that reach beyond the end.
func TestField(t *testing.T) {
	for _, s := range surroundings() {
		s = s[:min(len(s), 12)]
		for at := range len(s) + 4 {
			for octets := range len(s) + 4 {
				if at+octets > len(s) {
					refused(t, Field, s, at, octets, api.ErrForm)
					continue
				}
				var want []byte
				for i := range octets {
					want = append(want, s[at+i])
				}
				if got, e := Field(s, at, octets); got != string(want) || e != api.OK {
					t.Errorf("Field(%q, %d, %d) = %q, %d, want %q", s, at, octets, got, e, want)
				}
			}
		}
	}
}

// P5.4: arguments up to the ends of int, where their sum overflows.
func TestFieldFar(t *testing.T) {
	far := []int{1 << 31, 1 << 32, 1 << 62, math.MaxInt - 1, math.MaxInt}
	for _, s := range surroundings() {
		for _, n := range far {
			for _, m := range append(far, 0, 1, len(s)) {
				refused(t, Field, s, n, m, api.ErrForm)
				refused(t, Field, s, m, n, api.ErrForm)
			}
		}
		for _, n := range negatives() {
			for _, m := range append(negatives(), 0, 1, len(s), len(s)+1, math.MaxInt) {
				refused(t, Field, s, n, m, api.ErrArg)
				refused(t, Field, s, m, n, api.ErrArg)
			}
		}
	}
}

// P5.5: get returns what put has appended, whatever surrounds it.
func TestPutGet(t *testing.T) {
	for _, f := range forms() {
		for _, n := range edges() {
			for octets := 1; octets <= f.most; octets++ {
				if n < 0 && !f.negative || f.value(n, octets) == nil {
					continue
				}
				for _, before := range surroundings() {
					for _, after := range surroundings() {
						checkPutGet(t, f, before, n, octets, after)
					}
				}
			}
		}
	}
}

// checkPutGet checks an encoding between other octets.
func checkPutGet(t *testing.T, f form, before string, n, octets int, after string) {
	t.Helper()
	s, e := f.put(before, n, octets)
	if e != api.OK || len(s) != len(before)+octets || s[:len(before)] != before {
		t.Errorf("%s put(%q, %d, %d) = %q, %d", f.name, before, n, octets, s, e)
		return
	}
	if got, e := f.get(s+after, len(before), octets); got != n || e != api.OK {
		t.Errorf("%s get of %d in %d octets between %q and %q = %d, %d", f.name, n, octets, before, after, got, e)
	}
}

// P5.5: integers are put one behind the other, and all of them are got back.
func TestPutGetSequence(t *testing.T) {
	type field struct {
		form
		at, n, octets int
	}
	var all []field
	s := ""
	for i, n := range edges() {
		f := forms()[i%2]
		octets := 1 + i/2%f.most
		next, e := f.put(s, n, octets)
		if e == api.OK {
			all = append(all, field{f, len(s), n, octets})
			s = next
		}
	}
	if len(all) < 1000 {
		t.Errorf("only %d integers were put", len(all))
	}
	for _, x := range all {
		if got, e := x.get(s, x.at, x.octets); got != x.n || e != api.OK {
			t.Errorf("%s get of %d octets at %d = %d, %d, want %d", x.name, x.octets, x.at, got, e, x.n)
		}
	}
}

// P5.5: the encodings in the same number of octets have the order of their integers.
func TestOrder(t *testing.T) {
	for octets := 1; octets <= 7; octets++ {
		var l []int
		for _, n := range edges() {
			if n >= 0 && n>>(8*octets) == 0 {
				l = append(l, n)
			}
		}
		slices.Sort(l)
		last := ""
		for i, n := range slices.Compact(l) {
			s, e := Put("", n, octets)
			if e != api.OK || len(s) != octets || i > 0 && strings.Compare(last, s) >= 0 {
				t.Errorf("%d in %d octets is %q, %d, behind %q", n, octets, s, e, last)
			}
			last = s
		}
	}
}

// R5: a string to which two integers are appended stays as it is, and so do both results.
func TestPutLeavesArgument(t *testing.T) {
	s, _ := Put("ab", 1, 2)
	x, _ := Put(s, 2, 7)
	y, _ := PutSigned(s, -3, 8)
	if s != "ab\x00\x01" || x != "ab\x00\x01\x00\x00\x00\x00\x00\x00\x02" || y != "ab\x00\x01\xff\xff\xff\xff\xff\xff\xff\xfd" {
		t.Errorf("%q %q %q", s, x, y)
	}
}
