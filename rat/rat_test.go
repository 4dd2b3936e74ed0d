package rat

import (
	"math"
	"math/big"
	"testing"

	"isochron/api"
)

// valid are fractions at which something changes: around 0 and 1, with common factors to cancel, and at the limits.
func valid() []api.Rat {
	l := []api.Rat{{N: 0, D: 1}}
	for _, x := range []api.Rat{
		{N: 1, D: 1}, {N: 2, D: 1}, {N: 1, D: 2}, {N: 1, D: 3}, {N: 2, D: 3}, {N: 3, D: 2}, {N: 3, D: 4}, {N: 2, D: 5}, {N: 7, D: 3},
		{N: 1 << 15, D: 1}, {N: 1, D: 1 << 15}, {N: 1<<15 + 1, D: 1 << 15}, {N: 1 << 20, D: 1}, {N: 1, D: 1 << 20},
		{N: 32749, D: 32771}, {N: 387420489, D: Limit}, {N: Limit, D: 387420489},
		{N: Limit, D: 1}, {N: Limit - 1, D: 1}, {N: Limit / 2, D: 1}, {N: Limit/2 + 1, D: 1},
		{N: 1, D: Limit}, {N: 1, D: Limit - 1}, {N: 1, D: Limit / 2}, {N: 1, D: Limit/2 + 1},
		{N: Limit, D: Limit - 1}, {N: Limit - 1, D: Limit}, {N: Limit - 1, D: Limit - 2}, {N: Limit - 2, D: Limit - 1},
	} {
		l = append(l, x, api.Rat{N: -x.N, D: x.D})
	}
	return l
}

// invalid are fractions that break one condition of validity or more, up to the ends of int.
func invalid() []api.Rat {
	return []api.Rat{
		{N: 0, D: 0}, {N: 1, D: 0}, {N: -1, D: 0}, {N: Limit + 1, D: 0},
		{N: 0, D: -1}, {N: 1, D: -1}, {N: 1, D: -2}, {N: -3, D: -2}, {N: 1, D: -Limit},
		{N: 0, D: 2}, {N: 0, D: Limit}, {N: 2, D: 2}, {N: 2, D: 4}, {N: -2, D: 4}, {N: 9, D: 3}, {N: Limit, D: 2}, {N: -Limit, D: Limit}, {N: 15, D: 35},
		{N: Limit + 1, D: 1}, {N: -Limit - 1, D: 1}, {N: 1, D: Limit + 1}, {N: -1, D: Limit + 1}, {N: Limit + 1, D: Limit}, {N: Limit, D: Limit + 1}, {N: Limit + 2, D: 2}, {N: 2 * Limit, D: 2},
		{N: 1 << 32, D: 1}, {N: 1, D: 1 << 32}, {N: 1<<32 + 1, D: 1<<32 + 2}, {N: 1 << 62, D: 1}, {N: 1, D: 1 << 62}, {N: 1 << 62, D: 1 << 62},
		{N: math.MaxInt, D: 1}, {N: 1, D: math.MaxInt}, {N: math.MinInt, D: 1}, {N: 1, D: math.MinInt},
		{N: math.MinInt, D: math.MinInt}, {N: math.MinInt, D: -1}, {N: math.MinInt, D: math.MaxInt}, {N: math.MaxInt, D: math.MinInt}, {N: 0, D: math.MinInt}, {N: math.MinInt, D: 0},
	}
}

// exact is the number of a fraction whose denominator is not 0.
func exact(x api.Rat) *big.Rat {
	return big.NewRat(int64(x.N), int64(x.D))
}

// fraction is what a function should return if its arguments are valid and its exact result is x.
func fraction(x *big.Rat) (api.Rat, api.Errno) {
	limit := big.NewInt(Limit)
	if x.Num().CmpAbs(limit) > 0 || x.Denom().CmpAbs(limit) > 0 {
		return api.Rat{}, api.ErrBig
	}
	return api.Rat{N: int(x.Num().Int64()), D: int(x.Denom().Int64())}, api.OK
}

type operation func(a, b api.Rat) (api.Rat, api.Errno)

type ratCase struct {
	a, b, want api.Rat
	e          api.Errno
}

func checkCases(t *testing.T, name string, f operation, cases []ratCase) {
	t.Helper()
	for _, c := range cases {
		if x, e := f(c.a, c.b); x != c.want || e != c.e {
			t.Errorf("%s(%v, %v) = %v, %d; want %v, %d", name, c.a, c.b, x, e, c.want, c.e)
		}
	}
}

// checkPairs compares f with the exact result for all pairs of valid fractions; want returns nil where f should return ErrArg.
func checkPairs(t *testing.T, name string, f operation, want func(a, b *big.Rat) *big.Rat) {
	t.Helper()
	for _, a := range valid() {
		for _, b := range valid() {
			x, e := api.Rat{}, api.ErrArg
			if w := want(exact(a), exact(b)); w != nil {
				x, e = fraction(w)
			}
			if y, g := f(a, b); y != x || g != e {
				t.Errorf("%s(%v, %v) = %v, %d; want %v, %d", name, a, b, y, g, x, e)
			}
		}
	}
}

// checkInvalid lets f have invalid fractions as its first, its second and both arguments.
func checkInvalid(t *testing.T, name string, f operation) {
	t.Helper()
	for _, bad := range invalid() {
		others := append(valid(), invalid()...)
		for _, other := range others {
			for _, pair := range [][2]api.Rat{{bad, other}, {other, bad}} {
				if x, e := f(pair[0], pair[1]); x != (api.Rat{}) || e != api.ErrRat {
					t.Errorf("%s(%v, %v) = %v, %d; want ErrRat", name, pair[0], pair[1], x, e)
				}
			}
		}
	}
}

func TestLimit(t *testing.T) {
	if Limit != 1073741824 {
		t.Error(Limit)
	}
}

// P2.1
func TestCheck(t *testing.T) {
	for _, x := range valid() {
		if e := Check(x); e != api.OK {
			t.Errorf("Check(%v) = %d; want OK", x, e)
		}
	}
	for _, x := range invalid() {
		if e := Check(x); e != api.ErrRat {
			t.Errorf("Check(%v) = %d; want ErrRat", x, e)
		}
	}
}

// P2.1: the definition, tried out for small parts.
func TestCheckSmall(t *testing.T) {
	for n := -20; n <= 20; n++ {
		for d := -20; d <= 20; d++ {
			want := api.OK
			if d < 1 {
				want = api.ErrRat
			}
			for k := 2; k <= 20; k++ {
				if n%k == 0 && d%k == 0 {
					want = api.ErrRat
				}
			}
			if e := Check(api.Rat{N: n, D: d}); e != want {
				t.Errorf("Check(%d/%d) = %d; want %d", n, d, e, want)
			}
		}
	}
}

// P2.1
func TestMakeTable(t *testing.T) {
	const big = 1 << 62
	for _, c := range []struct {
		n, d int
		want api.Rat
		e    api.Errno
	}{
		{6, -4, api.Rat{N: -3, D: 2}, api.OK},
		{-6, 4, api.Rat{N: -3, D: 2}, api.OK},
		{-6, -4, api.Rat{N: 3, D: 2}, api.OK},
		{6, 4, api.Rat{N: 3, D: 2}, api.OK},
		{0, -7, api.Rat{N: 0, D: 1}, api.OK},
		{0, big, api.Rat{N: 0, D: 1}, api.OK},
		{0, -big, api.Rat{N: 0, D: 1}, api.OK},
		{1 << 31, 2, api.Rat{N: Limit, D: 1}, api.OK},
		{Limit, 1, api.Rat{N: Limit, D: 1}, api.OK},
		{-Limit, 1, api.Rat{N: -Limit, D: 1}, api.OK},
		{Limit, -1, api.Rat{N: -Limit, D: 1}, api.OK},
		{1, Limit, api.Rat{N: 1, D: Limit}, api.OK},
		{1, -Limit, api.Rat{N: -1, D: Limit}, api.OK},
		{big, big, api.Rat{N: 1, D: 1}, api.OK},
		{big, -big, api.Rat{N: -1, D: 1}, api.OK},
		{-big, -big, api.Rat{N: 1, D: 1}, api.OK},
		{big, 1 << 32, api.Rat{N: Limit, D: 1}, api.OK},
		{-big, 1 << 32, api.Rat{N: -Limit, D: 1}, api.OK},
		{1 << 32, big, api.Rat{N: 1, D: Limit}, api.OK},
		{1 << 32, -big, api.Rat{N: -1, D: Limit}, api.OK},
		// 3^39 and 2 * 3^38 exceed num.Max.
		{4052555153018976267, 2701703435345984178, api.Rat{N: 3, D: 2}, api.OK},
		{1, 0, api.Rat{}, api.ErrArg},
		{0, 0, api.Rat{}, api.ErrArg},
		{big + 1, 0, api.Rat{}, api.ErrArg},
		{math.MinInt, 0, api.Rat{}, api.ErrArg},
		{Limit + 1, 1, api.Rat{}, api.ErrBig},
		{-Limit - 1, 1, api.Rat{}, api.ErrBig},
		{1, Limit + 1, api.Rat{}, api.ErrBig},
		{1, -Limit - 1, api.Rat{}, api.ErrBig},
		{2*Limit + 2, 2, api.Rat{}, api.ErrBig},
		{big, 1, api.Rat{}, api.ErrBig},
		{big, big - 1, api.Rat{}, api.ErrBig},
		{big, 1 << 31, api.Rat{}, api.ErrBig},
		{1 << 31, big, api.Rat{}, api.ErrBig},
		// These would have fractions, were they not out of bounds themselves.
		{big + 1, big + 1, api.Rat{}, api.ErrBig},
		{-big - 1, big + 1, api.Rat{}, api.ErrBig},
		{-big - 1, -big - 1, api.Rat{}, api.ErrBig},
		{0, big + 1, api.Rat{}, api.ErrBig},
		{0, -big - 1, api.Rat{}, api.ErrBig},
		{math.MaxInt, math.MaxInt, api.Rat{}, api.ErrBig},
		{math.MinInt, math.MinInt, api.Rat{}, api.ErrBig},
		{math.MinInt, -big, api.Rat{}, api.ErrBig},
		{big, math.MinInt, api.Rat{}, api.ErrBig},
		{0, math.MinInt, api.Rat{}, api.ErrBig},
		{math.MinInt, -1, api.Rat{}, api.ErrBig},
	} {
		if x, e := Make(c.n, c.d); x != c.want || e != c.e {
			t.Errorf("Make(%d, %d) = %v, %d; want %v, %d", c.n, c.d, x, e, c.want, c.e)
		}
	}
}

// P2.1: all pairs of numbers at which something changes.
func TestMakeEdges(t *testing.T) {
	const most = 1 << 62
	edges := []int{0, math.MinInt}
	for _, n := range []int{1, 2, 3, 4, 5, 6, 7, 12, Limit/2 + 1, Limit - 1, Limit, Limit + 1, 2*Limit - 2, 2 * Limit, 2*Limit + 2, 3 * Limit, 1 << 32, 1 << 50, 1<<50 + 1, 1 << 51, Limit * Limit, Limit * (Limit - 1), 1 << 61, most - 2, most - 1, most, most + 1, most + 2, math.MaxInt - 1, math.MaxInt} {
		edges = append(edges, n, -n)
	}
	for _, n := range edges {
		for _, d := range edges {
			x, e := api.Rat{}, api.ErrArg
			if d != 0 {
				e = api.ErrBig
			}
			if d != 0 && min(n, d) >= -most && max(n, d) <= most {
				x, e = fraction(big.NewRat(int64(n), int64(d)))
			}
			if y, g := Make(n, d); y != x || g != e {
				t.Errorf("Make(%d, %d) = %v, %d; want %v, %d", n, d, y, g, x, e)
			}
		}
	}
}

// P2.2
func TestAdd(t *testing.T) {
	checkCases(t, "Add", Add, []ratCase{
		{api.Rat{N: 1, D: 2}, api.Rat{N: 1, D: 3}, api.Rat{N: 5, D: 6}, api.OK},
		{api.Rat{N: 1, D: 6}, api.Rat{N: 1, D: 3}, api.Rat{N: 1, D: 2}, api.OK},
		{api.Rat{N: 1, D: 2}, api.Rat{N: -1, D: 2}, api.Rat{N: 0, D: 1}, api.OK},
		{api.Rat{N: Limit - 1, D: 1}, api.Rat{N: 1, D: 1}, api.Rat{N: Limit, D: 1}, api.OK},
		{api.Rat{N: Limit, D: 1}, api.Rat{N: 1, D: 1}, api.Rat{}, api.ErrBig},
		{api.Rat{N: -Limit, D: 1}, api.Rat{N: -1, D: 1}, api.Rat{}, api.ErrBig},
		{api.Rat{N: 1, D: Limit}, api.Rat{N: 1, D: Limit}, api.Rat{N: 1, D: Limit / 2}, api.OK},
		{api.Rat{N: 1, D: Limit}, api.Rat{N: 1, D: 3}, api.Rat{}, api.ErrBig},
		{api.Rat{N: 2, D: 6}, api.Rat{N: 1, D: 2}, api.Rat{}, api.ErrRat},
	})
	checkPairs(t, "Add", Add, func(a, b *big.Rat) *big.Rat { return new(big.Rat).Add(a, b) })
	checkInvalid(t, "Add", Add)
}

// P2.2
func TestSub(t *testing.T) {
	checkCases(t, "Sub", Sub, []ratCase{
		{api.Rat{N: 1, D: 2}, api.Rat{N: 1, D: 2}, api.Rat{N: 0, D: 1}, api.OK},
		{api.Rat{N: 1, D: 3}, api.Rat{N: 1, D: 2}, api.Rat{N: -1, D: 6}, api.OK},
		{api.Rat{N: 0, D: 1}, api.Rat{N: Limit, D: 1}, api.Rat{N: -Limit, D: 1}, api.OK},
		{api.Rat{N: -1, D: 1}, api.Rat{N: Limit, D: 1}, api.Rat{}, api.ErrBig},
		{api.Rat{N: Limit, D: 1}, api.Rat{N: -Limit, D: 1}, api.Rat{}, api.ErrBig},
	})
	checkPairs(t, "Sub", Sub, func(a, b *big.Rat) *big.Rat { return new(big.Rat).Sub(a, b) })
	checkInvalid(t, "Sub", Sub)
}

// P2.2
func TestMul(t *testing.T) {
	checkCases(t, "Mul", Mul, []ratCase{
		{api.Rat{N: 2, D: 3}, api.Rat{N: 3, D: 4}, api.Rat{N: 1, D: 2}, api.OK},
		{api.Rat{N: -2, D: 3}, api.Rat{N: -3, D: 2}, api.Rat{N: 1, D: 1}, api.OK},
		{api.Rat{N: 0, D: 1}, api.Rat{N: -1, D: Limit}, api.Rat{N: 0, D: 1}, api.OK},
		{api.Rat{N: 1 << 20, D: 1}, api.Rat{N: 1 << 20, D: 1}, api.Rat{}, api.ErrBig},
		{api.Rat{N: 1, D: 1 << 20}, api.Rat{N: 1, D: 1 << 20}, api.Rat{}, api.ErrBig},
		{api.Rat{N: 1 << 15, D: 1}, api.Rat{N: -1 << 15, D: 1}, api.Rat{N: -Limit, D: 1}, api.OK},
		{api.Rat{N: Limit, D: Limit - 1}, api.Rat{N: Limit - 1, D: Limit}, api.Rat{N: 1, D: 1}, api.OK},
		{api.Rat{N: Limit, D: 1}, api.Rat{N: Limit, D: 1}, api.Rat{}, api.ErrBig},
	})
	checkPairs(t, "Mul", Mul, func(a, b *big.Rat) *big.Rat { return new(big.Rat).Mul(a, b) })
	checkInvalid(t, "Mul", Mul)
}

// P2.2
func TestDiv(t *testing.T) {
	checkCases(t, "Div", Div, []ratCase{
		{api.Rat{N: 1, D: 2}, api.Rat{N: -3, D: 4}, api.Rat{N: -2, D: 3}, api.OK},
		{api.Rat{N: -1, D: 2}, api.Rat{N: -3, D: 4}, api.Rat{N: 2, D: 3}, api.OK},
		{api.Rat{N: 0, D: 1}, api.Rat{N: -3, D: 4}, api.Rat{N: 0, D: 1}, api.OK},
		{api.Rat{N: 1, D: 2}, api.Rat{N: 0, D: 1}, api.Rat{}, api.ErrArg},
		{api.Rat{N: 0, D: 1}, api.Rat{N: 0, D: 1}, api.Rat{}, api.ErrArg},
		{api.Rat{N: Limit, D: 1}, api.Rat{N: 0, D: 1}, api.Rat{}, api.ErrArg},
		{api.Rat{N: 2, D: 4}, api.Rat{N: 0, D: 1}, api.Rat{}, api.ErrRat},
		{api.Rat{N: 1, D: 2}, api.Rat{N: 0, D: 2}, api.Rat{}, api.ErrRat},
		{api.Rat{N: 1, D: 1}, api.Rat{N: -1, D: Limit}, api.Rat{N: -Limit, D: 1}, api.OK},
		{api.Rat{N: 2, D: 1}, api.Rat{N: 1, D: Limit}, api.Rat{}, api.ErrBig},
		{api.Rat{N: Limit, D: 1}, api.Rat{N: 1, D: Limit}, api.Rat{}, api.ErrBig},
		{api.Rat{N: 1, D: Limit}, api.Rat{N: Limit, D: 1}, api.Rat{}, api.ErrBig},
	})
	checkPairs(t, "Div", Div, func(a, b *big.Rat) *big.Rat {
		if b.Sign() == 0 {
			return nil
		}
		return new(big.Rat).Quo(a, b)
	})
	checkInvalid(t, "Div", Div)
}

// P2.3
func TestCmp(t *testing.T) {
	for _, c := range []struct {
		a, b api.Rat
		want int
		e    api.Errno
	}{
		{api.Rat{N: 1, D: 3}, api.Rat{N: 2, D: 5}, -1, api.OK},
		{api.Rat{N: 2, D: 5}, api.Rat{N: 1, D: 3}, 1, api.OK},
		{api.Rat{N: -1, D: 3}, api.Rat{N: -2, D: 5}, 1, api.OK},
		{api.Rat{N: 2, D: 5}, api.Rat{N: 2, D: 5}, 0, api.OK},
		{api.Rat{N: 0, D: 1}, api.Rat{N: 0, D: 1}, 0, api.OK},
		{api.Rat{N: -Limit, D: 1}, api.Rat{N: Limit, D: 1}, -1, api.OK},
		{api.Rat{N: Limit - 2, D: Limit - 1}, api.Rat{N: Limit - 1, D: Limit}, -1, api.OK},
		{api.Rat{N: 1, D: 2}, api.Rat{N: 2, D: 4}, 0, api.ErrRat},
		{api.Rat{N: 2, D: 4}, api.Rat{N: 2, D: 4}, 0, api.ErrRat},
	} {
		if n, e := Cmp(c.a, c.b); n != c.want || e != c.e {
			t.Errorf("Cmp(%v, %v) = %d, %d; want %d, %d", c.a, c.b, n, e, c.want, c.e)
		}
	}
	for _, a := range valid() {
		for _, b := range valid() {
			if n, e := Cmp(a, b); n != exact(a).Cmp(exact(b)) || e != api.OK {
				t.Errorf("Cmp(%v, %v) = %d, %d", a, b, n, e)
			}
		}
	}
	checkInvalid(t, "Cmp", func(a, b api.Rat) (api.Rat, api.Errno) {
		n, e := Cmp(a, b)
		return api.Rat{N: n}, e
	})
}

// P2.3
func TestMinMax(t *testing.T) {
	third, more := api.Rat{N: 1, D: 3}, api.Rat{N: 2, D: 5}
	checkCases(t, "Min", Min, []ratCase{{third, more, third, api.OK}, {more, third, third, api.OK}, {more, more, more, api.OK}})
	checkCases(t, "Max", Max, []ratCase{{third, more, more, api.OK}, {more, third, more, api.OK}, {more, more, more, api.OK}})
	checkPairs(t, "Min", Min, func(a, b *big.Rat) *big.Rat {
		if b.Cmp(a) < 0 {
			return b
		}
		return a
	})
	checkPairs(t, "Max", Max, func(a, b *big.Rat) *big.Rat {
		if b.Cmp(a) > 0 {
			return b
		}
		return a
	})
	checkInvalid(t, "Min", Min)
	checkInvalid(t, "Max", Max)
}

// P2.3
func TestFloorCeil(t *testing.T) {
	for _, c := range []struct {
		x        api.Rat
		down, up int
		e        api.Errno
	}{
		{api.Rat{N: -3, D: 2}, -2, -1, api.OK},
		{api.Rat{N: 3, D: 2}, 1, 2, api.OK},
		{api.Rat{N: -7, D: 3}, -3, -2, api.OK},
		{api.Rat{N: 0, D: 1}, 0, 0, api.OK},
		{api.Rat{N: 5, D: 1}, 5, 5, api.OK},
		{api.Rat{N: -5, D: 1}, -5, -5, api.OK},
		{api.Rat{N: 1, D: Limit}, 0, 1, api.OK},
		{api.Rat{N: -1, D: Limit}, -1, 0, api.OK},
		{api.Rat{N: Limit, D: 1}, Limit, Limit, api.OK},
		{api.Rat{N: -Limit, D: 1}, -Limit, -Limit, api.OK},
		{api.Rat{N: Limit, D: Limit - 1}, 1, 2, api.OK},
	} {
		checkRounding(t, c.x, c.down, c.up, c.e)
	}
	for _, x := range valid() {
		down := new(big.Int).Div(big.NewInt(int64(x.N)), big.NewInt(int64(x.D)))
		up := new(big.Int).Div(big.NewInt(int64(-x.N)), big.NewInt(int64(x.D)))
		checkRounding(t, x, int(down.Int64()), -int(up.Int64()), api.OK)
	}
	for _, x := range invalid() {
		checkRounding(t, x, 0, 0, api.ErrRat)
	}
}

func checkRounding(t *testing.T, x api.Rat, down, up int, want api.Errno) {
	t.Helper()
	if n, e := Floor(x); n != down || e != want {
		t.Errorf("Floor(%v) = %d, %d; want %d, %d", x, n, e, down, want)
	}
	if n, e := Ceil(x); n != up || e != want {
		t.Errorf("Ceil(%v) = %d, %d; want %d, %d", x, n, e, up, want)
	}
}
