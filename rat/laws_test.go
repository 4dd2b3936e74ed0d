package rat

import (
	"testing"

	"isochron/api"
)

// chain computes f(g(a, b), c), or returns the first error.
func chain(f, g operation, a, b, c api.Rat) (api.Rat, api.Errno) {
	x, e := g(a, b)
	if e != api.OK {
		return api.Rat{}, e
	}
	return f(x, c)
}

// swapped is f with its arguments in the other order.
func swapped(f operation) operation {
	return func(a, b api.Rat) (api.Rat, api.Errno) { return f(b, a) }
}

// checkEqual fails if both sides of a law are without an error but differ; it returns whether it could compare them.
func checkEqual(t *testing.T, law string, a, b, c, x, y api.Rat, ex, ey api.Errno) bool {
	t.Helper()
	if ex != api.OK || ey != api.OK {
		return false
	}
	if x != y {
		t.Errorf("%s of %v, %v, %v: %v and %v", law, a, b, c, x, y)
	}
	return true
}

// P2.4
func TestResultsAreValid(t *testing.T) {
	for name, f := range map[string]operation{"Add": Add, "Sub": Sub, "Mul": Mul, "Div": Div, "Min": Min, "Max": Max} {
		for _, a := range valid() {
			for _, b := range valid() {
				if x, e := f(a, b); e == api.OK && Check(x) != api.OK {
					t.Errorf("%s(%v, %v) = %v, which is not valid", name, a, b, x)
				}
			}
		}
	}
}

// P2.4
func TestCommutative(t *testing.T) {
	for name, f := range map[string]operation{"Add": Add, "Mul": Mul} {
		for _, a := range valid() {
			for _, b := range valid() {
				x, ex := f(a, b)
				y, ey := f(b, a)
				if x != y || ex != ey {
					t.Errorf("%s of %v and %v: %v, %d and %v, %d", name, a, b, x, ex, y, ey)
				}
			}
		}
	}
}

// P2.4
func TestAssociativeAndDistributive(t *testing.T) {
	compared := 0
	for _, a := range valid() {
		for _, b := range valid() {
			for _, c := range valid() {
				for name, f := range map[string]operation{"Add": Add, "Mul": Mul} {
					x, ex := chain(f, f, a, b, c)
					y, ey := chain(swapped(f), f, b, c, a)
					if checkEqual(t, "associativity of "+name, a, b, c, x, y, ex, ey) {
						compared++
					}
				}
				x, ex := chain(Mul, Add, a, b, c)
				y, ey := sumOfProducts(a, b, c)
				if checkEqual(t, "distributivity", a, b, c, x, y, ex, ey) {
					compared++
				}
			}
		}
	}
	if compared < 10000 {
		t.Error("too few laws were compared:", compared)
	}
}

// sumOfProducts computes a * c + b * c, or returns the first error.
func sumOfProducts(a, b, c api.Rat) (api.Rat, api.Errno) {
	left, e := Mul(a, c)
	if e != api.OK {
		return api.Rat{}, e
	}
	right, e := Mul(b, c)
	if e != api.OK {
		return api.Rat{}, e
	}
	return Add(left, right)
}

// P2.4: what a function did to a is undone, which needs no condition but that it did not fail.
func TestUndone(t *testing.T) {
	for _, a := range valid() {
		for _, b := range valid() {
			for name, pair := range map[string][2]operation{"Add": {Add, Sub}, "Sub": {Sub, Add}, "Mul": {Mul, Div}, "Div": {Div, Mul}} {
				x, e := pair[0](a, b)
				if e != api.OK || name == "Mul" && b.N == 0 {
					continue
				}
				if y, e := pair[1](x, b); y != a || e != api.OK {
					t.Errorf("%s(%v, %v) = %v is undone to %v, %d", name, a, b, x, y, e)
				}
			}
		}
	}
}

// P2.4
func TestCmpIsTotalOrder(t *testing.T) {
	order := func(a, b api.Rat) int {
		n, e := Cmp(a, b)
		if e != api.OK {
			t.Errorf("Cmp(%v, %v): %d", a, b, e)
		}
		return n
	}
	for _, a := range valid() {
		for _, b := range valid() {
			if order(a, b) != -order(b, a) || (order(a, b) == 0) != (a == b) {
				t.Errorf("Cmp of %v and %v: %d and %d", a, b, order(a, b), order(b, a))
			}
			for _, c := range valid() {
				if order(a, b) <= 0 && order(b, c) <= 0 && order(a, c) > 0 {
					t.Errorf("Cmp is not transitive for %v, %v, %v", a, b, c)
				}
			}
		}
	}
}

// P2.4
func TestCmpAgreesWithDifference(t *testing.T) {
	for _, a := range valid() {
		for _, b := range valid() {
			d, e := Sub(a, b)
			if e != api.OK {
				continue
			}
			if n, e := Cmp(a, b); n != min(1, max(-1, d.N)) || e != api.OK {
				t.Errorf("Cmp(%v, %v) = %d, %d, but the difference is %v", a, b, n, e, d)
			}
		}
	}
}
