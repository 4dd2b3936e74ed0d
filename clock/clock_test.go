package clock

import (
	"math"
	"testing"

	"isochron/api"
)

const (
	second    = 1000000000
	maxPpb    = 200000
	maxOffset = 1 << 40
	maxTime   = 1 << 40
)

// numbers returns a function that gives numbers below its argument. Every seed has its own sequence.
func numbers(seed int) func(below int) int {
	state := uint64(seed)*2862933555777941757 + 3037000493
	return func(below int) int {
		state = state*6364136223846793005 + 1442695040888963407
		return int((state >> 11) % uint64(below))
	}
}

// rateErrors are valid ones: ordinary, at the limits, and some that do not divide Second.
func rateErrors() []int {
	l := []int{0, 1, 2, 3, 7, 999, 1000, 99991, 100000, 131072, 199999, maxPpb}
	for _, ppb := range l[1:] {
		l = append(l, -ppb)
	}
	return l
}

// clocks are valid ones: with all of rateErrors and with offsets that are ordinary or at the limits.
func clocks() []api.Clock {
	var l []api.Clock
	for _, ppb := range rateErrors() {
		for _, offset := range []int{0, 1, -1, 5, -50, 123456789, -maxTime / 3, maxOffset - 1, maxOffset, -maxOffset + 1, -maxOffset} {
			l = append(l, api.Clock{Offset: offset, Ppb: ppb})
		}
	}
	return l
}

// invalidClocks break one condition of validity or both.
func invalidClocks() []api.Clock {
	var l []api.Clock
	for _, offset := range []int{maxOffset + 1, -maxOffset - 1, 1 << 41, -1 << 62, math.MaxInt, math.MinInt} {
		l = append(l, api.Clock{Offset: offset}, api.Clock{Offset: offset, Ppb: maxPpb}, api.Clock{Offset: offset, Ppb: maxPpb + 1})
	}
	for _, ppb := range []int{maxPpb + 1, -maxPpb - 1, second, -second, -2 * second, math.MaxInt, math.MinInt} {
		l = append(l, api.Clock{Ppb: ppb}, api.Clock{Offset: -maxOffset, Ppb: ppb}, api.Clock{Offset: 5, Ppb: ppb})
	}
	return l
}

// times are valid ones: ordinary, at the limits, around the times at which the drift of rateErrors changes, and any.
func times() []int {
	l := []int{0, 1, 2, 9, 4999, 5000, 5001, 9998, 9999, 10000, 10001, 19999, 20000, 20001, 333333333, second - 1, second, second + 1, 5 * second, 12345678901, maxTime / 2, maxTime - 5000, maxTime - 1, maxTime}
	next := numbers(1)
	for i := range 20 {
		l = append(l, next(maxTime>>i))
	}
	return l
}

// noTimes are below 0 or above MaxTime, up to the ends of int.
func noTimes() []int {
	return []int{-1, -2, -second, -maxTime, -maxTime - 1, maxTime + 1, maxTime + 2, 1 << 41, 1 << 50, 1<<50 + 1, 1 << 62, math.MaxInt - 1, math.MaxInt, math.MinInt, math.MinInt + 1}
}

// shown is the local time by the document's words.
func shown(c api.Clock, t int) int {
	// At most 2^58 in amount, so that int will do.
	product := t * c.Ppb
	quotient := product / second
	if product%second < 0 {
		quotient--
	}
	return t + c.Offset + quotient
}

// expect compares a result with what it should be.
func expect(t *testing.T, got int, e api.Errno, want int, code api.Errno, call string, arguments ...any) {
	t.Helper()
	if got != want || e != code {
		t.Errorf("%s of %+v = %d, error %d; want %d, error %d", call, arguments, got, e, want, code)
	}
}

// P9.1
func TestCheck(t *testing.T) {
	if e := Check(api.Clock{}); e != api.OK {
		t.Errorf("Check of the zero clock = %d", e)
	}
	for _, c := range clocks() {
		if e := Check(c); e != api.OK {
			t.Errorf("Check(%+v) = %d", c, e)
		}
	}
	for _, c := range invalidClocks() {
		if e := Check(c); e != api.ErrClock {
			t.Errorf("Check(%+v) = %d", c, e)
		}
	}
}

// P9.1
func TestLocalTable(t *testing.T) {
	for _, x := range []struct {
		offset, ppb, t, want int
	}{
		{5, 100000, 10000, 10006},
		{5, 100000, 9999, 10004},
		{0, -100000, 9999, 9998},
		{0, -100000, 10000, 9999},
		{0, -100000, 10001, 9999},
		{0, -100000, 1, 0},
		{0, -100000, 0, 0},
		{0, -1, 1, 0},
		{0, -1, second, second - 1},
		{0, -1, second + 1, second - 1},
		{0, 1, second - 1, second - 1},
		{0, 1, second, second + 1},
		{-7, 0, 3, -4},
		{-maxOffset, -maxPpb, 0, -1099511627776},
		{-maxOffset, -maxPpb, 1, -1099511627776},
		{maxOffset, maxPpb, maxTime, 2199243157877}, // 2^41 + 219902325.5552
		{-maxOffset, -maxPpb, maxTime, -219902326},  // -219902325.5552
		{0, maxPpb, maxTime, 1099511627776 + 219902325},
		{0, -maxPpb, maxTime, 1099511627776 - 219902326},
	} {
		c := api.Clock{Offset: x.offset, Ppb: x.ppb}
		l, e := Local(c, x.t)
		expect(t, l, e, x.want, api.OK, "Local", c, x.t)
	}
}

// P9.1
func TestLocal(t *testing.T) {
	for _, c := range clocks() {
		for _, at := range times() {
			l, e := Local(c, at)
			expect(t, l, e, shown(c, at), api.OK, "Local", c, at)
		}
	}
}

// P9.1, R2
func TestLocalErrors(t *testing.T) {
	for _, c := range clocks() {
		for _, at := range noTimes() {
			l, e := Local(c, at)
			expect(t, l, e, 0, api.ErrArg, "Local", c, at)
		}
	}
	for _, c := range invalidClocks() {
		for _, at := range append(times(), noTimes()...) {
			l, e := Local(c, at)
			expect(t, l, e, 0, api.ErrClock, "Local", c, at)
		}
	}
}

// P9.2
func TestTrueTable(t *testing.T) {
	for _, x := range []struct {
		offset, ppb, l, want int
		e                    api.Errno
	}{
		{0, -100000, 9999, 10000, api.OK},
		{0, -100000, 9998, 9999, api.OK},
		{0, -100000, 0, 0, api.OK},
		{0, -100000, 1, 2, api.OK},
		{50, 0, 20, 0, api.OK},
		{50, 0, 50, 0, api.OK},
		{50, 0, 51, 1, api.OK},
		{-50, 0, 0, 50, api.OK},
		{-50, 0, -50, 0, api.OK},
		{-50, 0, -51, 0, api.OK},
		{0, 100000, 10000, 10000, api.OK}, // not shown: 10001 follows 9999
		{0, 100000, 10001, 10000, api.OK},
		{0, 100000, 9999, 9999, api.OK},
		{0, 0, 0, 0, api.OK},
		{0, 0, -1, 0, api.OK},
		{0, 0, math.MinInt, 0, api.OK},
		{0, 0, maxTime, maxTime, api.OK},
		{0, 0, maxTime + 1, 0, api.ErrNone},
		{0, 0, math.MaxInt, 0, api.ErrNone},
		{1, 0, maxTime + 1, maxTime, api.OK},
		{-1, 0, maxTime, 0, api.ErrNone},
		{maxOffset, maxPpb, 2199243157877, maxTime, api.OK},
		{maxOffset, maxPpb, 2199243157878, 0, api.ErrNone},
		{-maxOffset, -maxPpb, -219902326, maxTime, api.OK},
		{-maxOffset, -maxPpb, -219902325, 0, api.ErrNone},
		{-maxOffset, -maxPpb, 0, 0, api.ErrNone},
		{-maxOffset, -maxPpb, -maxOffset, 0, api.OK},
		{-maxOffset, -maxPpb, -maxOffset + 1, 2, api.OK},
		{-maxOffset, maxPpb, -maxOffset + 1, 1, api.OK},
	} {
		c := api.Clock{Offset: x.offset, Ppb: x.ppb}
		at, e := True(c, x.l)
		expect(t, at, e, x.want, x.e, "True", c, x.l)
	}
}

// expectLeast compares True with its definition: l is shown at the time and not a tick before it.
func expectLeast(t *testing.T, c api.Clock, l int) {
	t.Helper()
	at, e := True(c, l)
	if shown(c, maxTime) < l {
		expect(t, at, e, 0, api.ErrNone, "True", c, l)
		return
	}
	if e != api.OK || at < 0 || at > maxTime || shown(c, at) < l || at > 0 && shown(c, at-1) >= l {
		t.Errorf("True(%+v, %d) = %d, error %d", c, l, at, e)
	}
}

// P9.2
func TestTrue(t *testing.T) {
	for _, c := range clocks() {
		for _, at := range times() {
			for step := -2; step <= 2; step++ {
				expectLeast(t, c, shown(c, at)+step)
			}
		}
		for _, l := range append(times(), noTimes()...) {
			expectLeast(t, c, l)
		}
	}
}

// P9.2: the first time is also the one found by going through all of them.
func TestTrueInOrder(t *testing.T) {
	for _, ppb := range rateErrors() {
		c := api.Clock{Offset: -3, Ppb: ppb}
		at := 0
		for l := -10; l < 21000; l++ {
			for shown(c, at) < l {
				at++
			}
			got, e := True(c, l)
			expect(t, got, e, at, api.OK, "True", c, l)
		}
	}
}

// P9.2, R2
func TestTrueErrors(t *testing.T) {
	for _, c := range invalidClocks() {
		for _, l := range append(times(), noTimes()...) {
			at, e := True(c, l)
			expect(t, at, e, 0, api.ErrClock, "True", c, l)
		}
	}
}

// P9.3
func TestElapsedTable(t *testing.T) {
	for _, x := range []struct {
		offset, ppb, t, d, want int
	}{
		{7, 200000, 0, 5000, 5001},
		{7, 200000, 0, 4999, 4999},
		{7, 200000, 1, 4999, 5000},
		{7, 200000, 1, 5000, 5001},
		{7, 200000, 4999, 1, 2},
		{7, -200000, 0, 1, 0},
		{7, -200000, 1, 4999, 4999},
		{7, -200000, 0, 5000, 4999},
		{7, -200000, 0, 5001, 4999},
		{-9, 0, 0, 0, 0},
		{maxOffset, maxPpb, maxTime, 0, 0},
		{maxOffset, maxPpb, 0, maxTime, 1099731530101},
		{-maxOffset, -maxPpb, 0, maxTime, 1099291725450},
		{-maxOffset, -maxPpb, 1, maxTime - 1, 1099291725450},
		{0, 0, maxTime - 1, 1, 1},
	} {
		c := api.Clock{Offset: x.offset, Ppb: x.ppb}
		l, e := Elapsed(c, x.t, x.d)
		expect(t, l, e, x.want, api.OK, "Elapsed", c, x.t, x.d)
	}
}

// P9.3
func TestElapsed(t *testing.T) {
	for _, c := range clocks() {
		for _, at := range times() {
			for _, d := range times() {
				l, e := Elapsed(c, at, d)
				if at+d > maxTime {
					expect(t, l, e, 0, api.ErrArg, "Elapsed", c, at, d)
				} else {
					expect(t, l, e, shown(c, at+d)-shown(c, at), api.OK, "Elapsed", c, at, d)
				}
			}
		}
	}
}

// P9.3
func TestElapsedUntilTheEnd(t *testing.T) {
	for _, c := range clocks() {
		for _, at := range times() {
			l, e := Elapsed(c, at, maxTime-at)
			expect(t, l, e, shown(c, maxTime)-shown(c, at), api.OK, "Elapsed", c, at, maxTime-at)
			l, e = Elapsed(c, at, maxTime-at+1)
			expect(t, l, e, 0, api.ErrArg, "Elapsed", c, at, maxTime-at+1)
		}
	}
}

// P9.3, R2
func TestElapsedErrors(t *testing.T) {
	for _, at := range append(times(), noTimes()...) {
		for _, d := range noTimes() {
			for _, c := range []api.Clock{{}, {Offset: 5, Ppb: 100000}, {Offset: -maxOffset, Ppb: -maxPpb}} {
				l, e := Elapsed(c, at, d)
				expect(t, l, e, 0, api.ErrArg, "Elapsed", c, at, d)
				l, e = Elapsed(c, d, at)
				expect(t, l, e, 0, api.ErrArg, "Elapsed", c, d, at)
			}
		}
	}
	for _, c := range invalidClocks() {
		for _, pair := range [][2]int{{0, 0}, {1, maxTime - 1}, {1, maxTime}, {-1, 5}, {5, -1}, {math.MaxInt, math.MaxInt}, {math.MinInt, math.MinInt}} {
			l, e := Elapsed(c, pair[0], pair[1])
			expect(t, l, e, 0, api.ErrClock, "Elapsed", c, pair)
		}
	}
}

// P9.3
func TestOffsetTable(t *testing.T) {
	for _, x := range []struct {
		a, b    api.Clock
		t, want int
	}{
		{api.Clock{Offset: 5}, api.Clock{Offset: 2}, 9, 3},
		{api.Clock{Offset: 2}, api.Clock{Offset: 5}, 9, -3},
		{api.Clock{Ppb: 1}, api.Clock{Ppb: -1}, 0, 0},
		{api.Clock{Ppb: 1}, api.Clock{Ppb: -1}, 1, 1},
		{api.Clock{Ppb: -1}, api.Clock{Ppb: 1}, 1, -1},
		{api.Clock{Ppb: 1}, api.Clock{Ppb: -1}, second, 2},
		{api.Clock{Offset: 5, Ppb: 100000}, api.Clock{Offset: 5, Ppb: 100000}, 10000, 0},
		{api.Clock{Offset: maxOffset, Ppb: maxPpb}, api.Clock{Offset: -maxOffset, Ppb: -maxPpb}, maxTime, 2199463060203},
		{api.Clock{Offset: -maxOffset, Ppb: -maxPpb}, api.Clock{Offset: maxOffset, Ppb: maxPpb}, maxTime, -2199463060203},
	} {
		n, e := Offset(x.a, x.b, x.t)
		expect(t, n, e, x.want, api.OK, "Offset", x.a, x.b, x.t)
	}
}

// P9.3
func TestOffset(t *testing.T) {
	for _, a := range clocks() {
		for i, b := range clocks() {
			at := times()[i%len(times())]
			n, e := Offset(a, b, at)
			expect(t, n, e, shown(a, at)-shown(b, at), api.OK, "Offset", a, b, at)
		}
	}
}

// P9.3, R2
func TestOffsetErrors(t *testing.T) {
	for _, a := range clocks() {
		b := api.Clock{Offset: a.Ppb, Ppb: a.Ppb}
		for _, at := range noTimes() {
			n, e := Offset(a, b, at)
			expect(t, n, e, 0, api.ErrArg, "Offset", a, b, at)
		}
	}
	for _, bad := range invalidClocks() {
		for _, at := range []int{0, 9, maxTime, -1, maxTime + 1, math.MaxInt, math.MinInt} {
			for _, pair := range [][2]api.Clock{{bad, {}}, {{}, bad}, {bad, bad}, {{Offset: 5, Ppb: -3}, bad}, {bad, {Offset: 5, Ppb: -3}}} {
				n, e := Offset(pair[0], pair[1], at)
				expect(t, n, e, 0, api.ErrClock, "Offset", pair, at)
			}
		}
	}
}

// P9.4
func TestBoundTable(t *testing.T) {
	for _, x := range [][3]int{
		{200000, 1, 1},
		{100000, 10000, 1},
		{100000, 9999, 1},
		{100000, 10001, 2},
		{100000, 20000, 2},
		{0, 9, 0},
		{0, 0, 0},
		{0, maxTime, 0},
		{maxPpb, 0, 0},
		{1, 1, 1},
		{1, second, 1},
		{1, second + 1, 2},
		{1, maxTime, 1100},
		{maxPpb, maxTime, 219902326},
	} {
		n, e := Bound(x[0], x[1])
		expect(t, n, e, x[2], api.OK, "Bound", x[0], x[1])
	}
}

// P9.4: the least integer that is not below the quotient.
func TestBound(t *testing.T) {
	for _, ppb := range rateErrors() {
		for _, d := range times() {
			if ppb < 0 {
				continue
			}
			n, e := Bound(ppb, d)
			// At most 2^58, so that int will do.
			if total := ppb * d; e != api.OK || n*second < total || (n-1)*second >= total {
				t.Errorf("Bound(%d, %d) = %d, error %d", ppb, d, n, e)
			}
		}
	}
}

// P9.4
func TestBoundErrors(t *testing.T) {
	for _, ppb := range []int{-1, -2, -maxPpb, maxPpb + 1, second, 1 << 62, math.MaxInt, math.MinInt} {
		for _, d := range append(times(), noTimes()...) {
			n, e := Bound(ppb, d)
			expect(t, n, e, 0, api.ErrArg, "Bound", ppb, d)
		}
	}
	for _, ppb := range []int{0, 1, 100000, maxPpb} {
		for _, d := range noTimes() {
			n, e := Bound(ppb, d)
			expect(t, n, e, 0, api.ErrArg, "Bound", ppb, d)
		}
	}
}
