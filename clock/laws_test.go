package clock

import (
	"testing"

	"isochron/api"
)

// value returns a result, and fails if there is an error.
func value(t *testing.T, n int, e api.Errno) int {
	t.Helper()
	if e != api.OK {
		t.Fatalf("error %d", e)
	}
	return n
}

// advances reports by how much the local time advances in the d ticks from at on.
func advances(t *testing.T, c api.Clock, at, d int) int {
	t.Helper()
	before, e := Local(c, at)
	value(t, before, e)
	after, e := Local(c, at+d)
	return value(t, after, e) - before
}

// spans are times at and lengths d with at + d of at most MaxTime: short and long, early and late.
func spans() [][2]int {
	var l [][2]int
	for i, at := range times() {
		next := numbers(i)
		l = append(l, [2]int{at, 0}, [2]int{at, maxTime - at})
		for shift := range 10 {
			l = append(l, [2]int{at, next((maxTime-at)>>(4*shift) + 1)})
		}
	}
	return l
}

// P9.5
func TestLocalNeverDecreases(t *testing.T) {
	for _, ppb := range rateErrors() {
		for _, from := range []int{0, second - 7000, maxTime - 14000} {
			c := api.Clock{Offset: -5, Ppb: ppb}
			l, e := Local(c, from)
			last := value(t, l, e)
			for at := from + 1; at <= from+14000; at++ {
				l, e = Local(c, at)
				if value(t, l, e) < last {
					t.Fatalf("%+v: %d at %d, after %d", c, l, at, last)
				}
				last = l
			}
		}
	}
}

// P9.5
func TestAdvanceIsBounded(t *testing.T) {
	for _, c := range clocks() {
		for _, span := range spans() {
			at, d := span[0], span[1]
			b, e := Bound(max(c.Ppb, -c.Ppb), d)
			bound := value(t, b, e)
			if n := advances(t, c, at, d); n < 0 || n < d-bound || n > d+bound {
				t.Errorf("%+v advances by %d in %d ticks from %d on; the bound is %d", c, n, d, at, bound)
			}
		}
	}
}

// P9.5: a bound that is less by one would not hold, as some clock advances by d + Bound or by d - Bound.
func TestBoundIsReached(t *testing.T) {
	for _, ppb := range []int{100000, 125000, maxPpb} {
		period := second / ppb
		for _, d := range []int{1, 2, period - 1, period, period + 1, 3 * period} {
			b, e := Bound(ppb, d)
			bound := value(t, b, e)
			gain, loss := 0, 0
			// Drifts change at multiples of the period, or a tick behind them.
			for at := max(0, 2*period-d-2); at <= 2*period+2; at++ {
				gain = max(gain, advances(t, api.Clock{Ppb: ppb}, at, d)-d)
				loss = max(loss, d-advances(t, api.Clock{Ppb: -ppb}, at, d))
			}
			if gain != bound || loss != bound {
				t.Errorf("in %d ticks at %d ppb: at most %d more or %d less; want %d", d, ppb, gain, loss, bound)
			}
		}
	}
}

// P9.5
func TestTrueIsNotAfter(t *testing.T) {
	for _, c := range clocks() {
		for _, at := range times() {
			l, e := Local(c, at)
			x, e := True(c, value(t, l, e))
			if e != api.OK || x > at || x < at-1 {
				t.Errorf("%+v: True = %d, error %d, for the local time at %d", c, x, e, at)
				continue
			}
			if again, e := Local(c, x); e != api.OK || again != l {
				t.Errorf("%+v: %d at %d, but %d at %d", c, again, x, l, at)
			}
		}
	}
}

// P9.5
func TestElapsedTimesAddUp(t *testing.T) {
	for _, c := range clocks() {
		for i, span := range spans() {
			at, d := span[0], span[1]
			part := numbers(i)(d + 1)
			whole, e := Elapsed(c, at, d)
			value(t, whole, e)
			early, e := Elapsed(c, at, part)
			value(t, early, e)
			late, e := Elapsed(c, at+part, d-part)
			value(t, late, e)
			if early+late != whole || whole != advances(t, c, at, d) {
				t.Errorf("%+v from %d on: %d in %d and %d in %d ticks, but %d in all", c, at, early, part, late, d-part, whole)
			}
		}
	}
}
