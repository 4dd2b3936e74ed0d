package num

import (
	"math"
	"math/big"
	"slices"
	"testing"
)

// edges are the arguments at which something changes: around 0, around powers of two, at the bounds of the range and just beyond them, and at the ends of int.
func edges() []int {
	l := []int{0, 1, 2, 3, 4, 5, 6, 7, 12, 100, 1<<24 + 1, 1 << 25, 1<<25 + 1, 1<<26 - 1, 1 << 26, 1 << 32, 1<<48 - 1, 1 << 49, 1<<49 + 1, Max - 1, Max, Max + 1, Max + 2, 1 << 51, 1 << 62, math.MaxInt - 1, math.MaxInt}
	for _, x := range slices.Clone(l[1:]) {
		l = append(l, -x)
	}
	return append(l, math.MinInt)
}

// within says by plain comparison whether all numbers are in range.
func within(l ...int) bool {
	return slices.Min(l) >= -Max && slices.Max(l) <= Max
}

// exact is what a function should return if its arguments are valid and the exact result is x.
func exact(x *big.Int) (int, bool) {
	if x.CmpAbs(big.NewInt(Max)) > 0 {
		return 0, false
	}
	return int(x.Int64()), true
}

// floor is a / b rounded down, for b of at least 1: big.Int's Div leaves a remainder that is not negative.
func floor(a *big.Int, b int) *big.Int {
	return new(big.Int).Div(a, big.NewInt(int64(b)))
}

func whole(a int) *big.Int { return big.NewInt(int64(a)) }

func product(a, b int) *big.Int { return new(big.Int).Mul(whole(a), whole(b)) }

// checkPairs compares f with the exact results for all pairs of edges; want returns nil where the arguments are invalid.
func checkPairs(t *testing.T, name string, f func(a, b int) (int, bool), want func(a, b int) *big.Int) {
	t.Helper()
	for _, a := range edges() {
		for _, b := range edges() {
			x, ok := 0, false
			if w := want(a, b); w != nil && within(a, b) {
				x, ok = exact(w)
			}
			if y, yes := f(a, b); y != x || yes != ok {
				t.Errorf("%s(%d, %d) = %d, %v; want %d, %v", name, a, b, y, yes, x, ok)
			}
		}
	}
}

type pairCase struct {
	a, b, want int
	ok         bool
}

func checkTable(t *testing.T, name string, f func(a, b int) (int, bool), cases []pairCase) {
	t.Helper()
	for _, c := range cases {
		if x, ok := f(c.a, c.b); x != c.want || ok != c.ok {
			t.Errorf("%s(%d, %d) = %d, %v; want %d, %v", name, c.a, c.b, x, ok, c.want, c.ok)
		}
	}
}

func TestMax(t *testing.T) {
	if Max != 1125899906842624 {
		t.Error(Max)
	}
}

// P1.1
func TestAdd(t *testing.T) {
	checkTable(t, "Add", Add, []pairCase{
		{2, 3, 5, true},
		{-2, -3, -5, true},
		{Max, 1, 0, false},
		{Max, -1, Max - 1, true},
		{Max - 1, 1, Max, true},
		{-Max + 1, -1, -Max, true},
		{-Max, -1, 0, false},
		{Max, Max, 0, false},
		{Max, -Max, 0, true},
		{Max + 1, -5, 0, false},
		{-5, Max + 1, 0, false},
		{-Max - 1, 5, 0, false},
		{math.MaxInt, math.MaxInt, 0, false},
		{math.MinInt, math.MinInt, 0, false},
		{math.MinInt, math.MaxInt, 0, false},
	})
	checkPairs(t, "Add", Add, func(a, b int) *big.Int { return new(big.Int).Add(whole(a), whole(b)) })
}

// P1.1
func TestSub(t *testing.T) {
	checkTable(t, "Sub", Sub, []pairCase{
		{2, 3, -1, true},
		{0, Max, -Max, true},
		{0, -Max, Max, true},
		{-Max, 1, 0, false},
		{Max, -1, 0, false},
		{Max, Max, 0, true},
		{Max + 1, Max + 1, 0, false},
		{Max + 1, 5, 0, false},
		{5, Max + 1, 0, false},
		{5, -Max - 1, 0, false},
		{0, math.MinInt, 0, false},
		{math.MinInt, math.MinInt, 0, false},
	})
	checkPairs(t, "Sub", Sub, func(a, b int) *big.Int { return new(big.Int).Sub(whole(a), whole(b)) })
}

// P1.1
func TestMul(t *testing.T) {
	checkTable(t, "Mul", Mul, []pairCase{
		{-4, 5, -20, true},
		{-4, -5, 20, true},
		{1 << 26, 1 << 24, 1 << 50, true},
		{1 << 26, -1 << 24, -1 << 50, true},
		{1 << 26, 1 << 25, 0, false},
		{1 << 26, -1 << 25, 0, false},
		{1 << 32, 1 << 32, 0, false}, // 0 in 64 bits
		{Max, Max, 0, false},
		{Max, 1, Max, true},
		{Max, -1, -Max, true},
		{Max, 0, 0, true},
		{Max + 1, 0, 0, false},
		{0, -Max - 1, 0, false},
		{0, math.MinInt, 0, false},
		{math.MinInt, -1, 0, false},
	})
	checkPairs(t, "Mul", Mul, product)
}

// P1.2
func TestFloorDiv(t *testing.T) {
	checkTable(t, "FloorDiv", FloorDiv, []pairCase{
		{7, 2, 3, true},
		{-7, 2, -4, true},
		{-8, 2, -4, true},
		{-1, Max, -1, true},
		{Max - 1, Max, 0, true},
		{-Max, 1, -Max, true},
		{7, 0, 0, false},
		{0, 0, 0, false},
		{7, -2, 0, false},
		{7, math.MinInt, 0, false},
		{Max + 1, 2, 0, false},
		{-Max - 1, 2, 0, false},
		{math.MinInt, 1, 0, false},
		{7, Max + 1, 0, false},
	})
	checkPairs(t, "FloorDiv", FloorDiv, func(a, b int) *big.Int {
		if b < 1 {
			return nil
		}
		return floor(whole(a), b)
	})
}

// P1.2
func TestCeilDiv(t *testing.T) {
	checkTable(t, "CeilDiv", CeilDiv, []pairCase{
		{7, 2, 4, true},
		{-7, 2, -3, true},
		{8, 2, 4, true},
		{1, Max, 1, true},
		{-Max + 1, Max, 0, true},
		{Max, 1, Max, true},
		{7, 0, 0, false},
		{0, 0, 0, false},
		{7, -2, 0, false},
		{7, math.MinInt, 0, false},
		{Max + 1, 2, 0, false},
		{-Max - 1, 2, 0, false},
		{math.MinInt, 1, 0, false},
		{math.MaxInt, 1, 0, false},
		{7, Max + 1, 0, false},
	})
	checkPairs(t, "CeilDiv", CeilDiv, func(a, b int) *big.Int {
		if b < 1 {
			return nil
		}
		down := floor(new(big.Int).Neg(whole(a)), b)
		return down.Neg(down)
	})
}

// P1.2
func TestMod(t *testing.T) {
	checkTable(t, "Mod", Mod, []pairCase{
		{7, 2, 1, true},
		{-7, 2, 1, true},
		{-8, 2, 0, true},
		{-1, 10, 9, true},
		{-1, Max, Max - 1, true},
		{-Max, Max, 0, true},
		{7, 0, 0, false},
		{7, -2, 0, false},
		{7, math.MinInt, 0, false},
		{Max + 1, 2, 0, false},
		{math.MinInt, 1, 0, false},
		{7, Max + 1, 0, false},
	})
	checkPairs(t, "Mod", Mod, func(a, b int) *big.Int {
		if b < 1 {
			return nil
		}
		return new(big.Int).Mod(whole(a), whole(b))
	})
}

// P1.3
func TestMulDivTable(t *testing.T) {
	for _, x := range []struct {
		a, b, c, want int
		ok            bool
	}{
		{1 << 50, 3, 4, 3 << 48, true},
		{-7, 3, 2, -11, true},
		{7, -3, 2, -11, true},
		{-7, -3, 2, 10, true},
		{7, 3, 2, 10, true},
		{-8, 3, 2, -12, true},
		{0, -3, 2, 0, true},
		{-3, 0, 2, 0, true},
		{Max, Max, Max, Max, true},
		{Max, -Max, Max, -Max, true},
		{Max, Max, Max - 1, 0, false},
		{Max - 1, Max, Max, Max - 1, true},
		{Max, 2, 1, 0, false},
		{Max, -2, 1, 0, false},
		{Max, 3, 2, 0, false},
		// The exact quotients are Max + 1/2 and -Max - 1/2, as 3 * 750599937895083 is 2^51 + 1: only one of them is rounded into the range.
		{750599937895083, 3, 2, Max, true},
		{-750599937895083, 3, 2, 0, false},
		// The amounts of these quotients are just below, at and beyond 2^64; 253921 * 145295143558111 is 2^65 - 1.
		{-145295143558111, 253921, 2, 0, false},
		{145295143558111, 253921, 2, 0, false},
		{145295143558111, -253921, 1, 0, false},
		{1 << 32, 1 << 32, 1, 0, false},
		{1 << 33, -1 << 33, 4, 0, false},
		{Max, Max, 1, 0, false},
		{Max, -Max, 1, 0, false},
		{1, 1, 0, 0, false},
		{1, 1, -1, 0, false},
		{Max, Max, 0, 0, false},
		{1, 1, math.MinInt, 0, false},
		{Max + 1, 1, 2, 0, false},
		{1, Max + 1, 2, 0, false},
		{1, 1, Max + 1, 0, false},
		{-Max - 1, 1, 2, 0, false},
		{1, -Max - 1, 2, 0, false},
		{math.MinInt, math.MinInt, math.MaxInt, 0, false},
		{math.MinInt, 0, 1, 0, false},
	} {
		if q, ok := MulDiv(x.a, x.b, x.c); q != x.want || ok != x.ok {
			t.Errorf("MulDiv(%d, %d, %d) = %d, %v; want %d, %v", x.a, x.b, x.c, q, ok, x.want, x.ok)
		}
	}
}

// P1.3
func TestMulDivEdges(t *testing.T) {
	for _, c := range edges() {
		checkPairs(t, "MulDiv by one edge", func(a, b int) (int, bool) { return MulDiv(a, b, c) }, func(a, b int) *big.Int {
			if c < 1 || c > Max {
				return nil
			}
			return floor(product(a, b), c)
		})
	}
}

// P1.4
func TestGcd(t *testing.T) {
	for _, x := range [][3]int{
		{12, -18, 6},
		{-12, -18, 6},
		{48, 36, 12},
		{35, 64, 1},
		{9, 28, 1},
		{0, 0, 0},
		{0, 7, 7},
		{7, 0, 7},
		{0, -7, 7},
		{-8, 0, 8},
		{Max, Max, Max},
		{Max, -Max, Max},
		{Max, 0, Max},
		{0, -Max, Max},
		{Max, Max - 1, 1},
		{Max, 3 << 40, 1 << 40},
		{Max + 1, 0, 0},
		{0, -Max - 1, 0},
		{Max + 1, Max + 1, 0},
		{2 * Max, 6, 0},
		{math.MinInt, math.MinInt, 0},
		{math.MinInt, 2, 0},
		{3, math.MaxInt, 0},
	} {
		if g := Gcd(x[0], x[1]); g != x[2] {
			t.Errorf("Gcd(%d, %d) = %d; want %d", x[0], x[1], g, x[2])
		}
	}
	checkPairs(t, "Gcd", func(a, b int) (int, bool) { return Gcd(a, b), within(a, b) }, func(a, b int) *big.Int {
		x, y := whole(a), whole(b)
		return new(big.Int).GCD(nil, nil, x.Abs(x), y.Abs(y))
	})
}

// P1.4
func TestLcm(t *testing.T) {
	for _, x := range []struct {
		l    []int
		want int
		ok   bool
	}{
		{nil, 1, true},
		{[]int{}, 1, true},
		{[]int{1}, 1, true},
		{[]int{4, 6, 10}, 60, true},
		{[]int{20, 30, 16}, 240, true},
		{[]int{7, 7, 7}, 7, true},
		{[]int{Max}, Max, true},
		{[]int{Max, 1 << 20, Max, 2}, Max, true},
		{[]int{1 << 25, 1<<25 - 1}, 1<<50 - 1<<25, true},
		{[]int{1 << 25, 1<<25 + 1}, 0, false},
		{[]int{Max, 3}, 0, false},
		{[]int{3, Max}, 0, false},
		{[]int{Max, Max - 1}, 0, false},
		{[]int{Max, 3, 1}, 0, false},
		{[]int{3, 0}, 0, false},
		{[]int{0}, 0, false},
		{[]int{0, 0}, 0, false},
		{[]int{0, 3}, 0, false},
		{[]int{3, -6}, 0, false},
		{[]int{-1}, 0, false},
		{[]int{Max + 1}, 0, false},
		{[]int{2, Max + 2}, 0, false},
		{[]int{-Max - 1, 2}, 0, false},
		{[]int{math.MaxInt, math.MaxInt}, 0, false},
		{[]int{math.MinInt}, 0, false},
	} {
		if m, ok := Lcm(x.l); m != x.want || ok != x.ok {
			t.Errorf("Lcm(%d) = %d, %v; want %d, %v", x.l, m, ok, x.want, x.ok)
		}
	}
}

// P1.4: the definition, tried out for all triples of small numbers.
func TestLcmIsLeast(t *testing.T) {
	for i := range 12 * 12 * 12 {
		l := []int{1 + i%12, 1 + i/12%12, 1 + i/144}
		least := 1
		for least%l[0] > 0 || least%l[1] > 0 || least%l[2] > 0 {
			least++
		}
		if m, ok := Lcm(l); m != least || !ok {
			t.Errorf("Lcm(%d) = %d, %v; want %d", l, m, ok, least)
		}
	}
}

// R3: neither the elements nor the unused capacity of the argument are written to.
func TestLcmLeavesArgument(t *testing.T) {
	l := []int{4, 6, 10, 77, 88}
	Lcm(l[:3])
	if !slices.Equal(l, []int{4, 6, 10, 77, 88}) {
		t.Error(l)
	}
}

// P1.5
func TestDivisionConsequence(t *testing.T) {
	for _, a := range edges() {
		for _, b := range edges() {
			if !within(a, b) || b < 1 {
				continue
			}
			q, okq := FloorDiv(a, b)
			m, okm := Mod(a, b)
			if !okq || !okm || a != b*q+m || m < 0 || m >= b {
				t.Errorf("%d by %d: %d, %v rest %d, %v", a, b, q, okq, m, okm)
			}
			if x, ok := MulDiv(a, b, b); x != a || !ok {
				t.Errorf("MulDiv(%d, %d, %d) = %d, %v", a, b, b, x, ok)
			}
		}
	}
}

// P1.5
func TestGcdTimesLcm(t *testing.T) {
	for _, a := range edges() {
		for _, b := range edges() {
			if !within(a, b) || a < 1 || b < 1 {
				continue
			}
			m, ok := Lcm([]int{a, b})
			want, fits := exact(new(big.Int).Div(product(a, b), whole(Gcd(a, b))))
			if m != want || ok != fits {
				t.Errorf("Lcm of %d, %d = %d, %v; want %d, %v", a, b, m, ok, want, fits)
			}
			if ok && product(Gcd(a, b), m).Cmp(product(a, b)) != 0 {
				t.Errorf("%d, %d: %d * %d is not their product", a, b, Gcd(a, b), m)
			}
		}
	}
}
