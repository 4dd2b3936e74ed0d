package curve

import (
	"math"
	"math/big"
	"slices"
	"testing"

	"isochron/api"
)

const (
	maxBurst   = 1 << 20
	maxRate    = 1 << 21
	maxTime    = 1 << 40
	maxLatency = 1 << 28
)

// trace makes arrivals of numbers in pairs: when each arrives, and its size.
func trace(numbers ...int) []api.Arrival {
	var l []api.Arrival
	for pair := range slices.Chunk(numbers, 2) {
		l = append(l, api.Arrival{At: pair[0], Size: pair[1]})
	}
	return l
}

// flow makes buckets of numbers in pairs: the Burst and the Rate of each.
func flow(numbers ...int) []api.Bucket {
	var l []api.Bucket
	for pair := range slices.Chunk(numbers, 2) {
		l = append(l, api.Bucket{Burst: pair[0], Rate: pair[1]})
	}
	return l
}

// long makes n arrivals of one size, gap ticks apart.
func long(n, gap, size int) []api.Arrival {
	l := make([]api.Arrival, n)
	for i := range l {
		l[i] = api.Arrival{At: i * gap, Size: size}
	}
	return l
}

// numbers returns a function that gives numbers below its argument. Every seed has its own sequence.
func numbers(seed int) func(below int) int {
	state := uint64(seed)*2862933555777941757 + 3037000493
	return func(below int) int {
		state = state*6364136223846793005 + 1442695040888963407
		return int((state >> 33) % uint64(below))
	}
}

// mixed makes n arrivals with gaps below gap and sizes up to size; a third of the gaps is 0.
func mixed(seed, n, gap, size int) []api.Arrival {
	next := numbers(seed)
	l := make([]api.Arrival, n)
	at := 0
	for i := range l {
		if next(3) > 0 {
			at += next(gap)
		}
		l[i] = api.Arrival{At: at, Size: 1 + next(size)}
	}
	return l
}

// services are valid ones: ordinary, at the limits, and with rates that do not divide Unit.
func services() []api.Serve {
	var l []api.Serve
	for _, rate := range []int{1, 2, 3, 1000, 1 << 16, 1 << 17, 349525, 349526, 1 << 19, 1 << 20, 1<<20 + 1, maxRate - 1, maxRate} {
		for _, latency := range []int{0, 1, 100, 12345, maxLatency - 1, maxLatency} {
			l = append(l, api.Serve{Rate: rate, Latency: latency})
		}
	}
	return l
}

// buckets are valid ones: ordinary, at the limits, and around the rates of services.
func buckets() []api.Bucket {
	var l []api.Bucket
	for _, rate := range []int{1, 2, 3, 999, 1000, 1001, 1 << 16, 1 << 17, 349525, 349526, 1 << 20, maxRate - 1, maxRate} {
		for _, burst := range []int{1, 2, 1000, 1001, 4097, maxBurst - 1, maxBurst} {
			l = append(l, api.Bucket{Burst: burst, Rate: rate})
		}
	}
	return l
}

// flows are valid ones of 1 to 12 buckets: ordinary, at the limits, and mixed ones for a service with a rate like those of services.
func flows() [][]api.Bucket {
	l := [][]api.Bucket{
		flow(1000, 1<<16, 100, 1<<18), flow(100, 1<<18, 1000, 1<<16), flow(1000, 1<<18, 1000, 1<<16), flow(1001, 1<<18, 1000, 1<<16), flow(999, 1<<18, 1000, 1<<16),
		flow(1, maxRate, maxBurst, 1), flow(maxBurst-1, maxRate, maxBurst, 1), flow(1, 2, maxBurst, 1), flow(maxBurst-1, 2, maxBurst, 1), flow(1, maxRate, maxBurst, maxRate-1), flow(maxBurst-1, maxRate, maxBurst, maxRate-1),
		flow(300, 1<<16, 200, 1<<17, 100, 1<<18, 50, 1<<19, 1, maxRate), flow(1, maxRate, 50, 1<<19, 100, 1<<18, 200, 1<<17, 300, 1<<16),
		slices.Repeat(flow(7, 1<<17), 12), slices.Repeat(flow(maxBurst, 1), 12), slices.Concat(flow(maxBurst, 1), slices.Repeat(flow(1, maxRate), 11)),
	}
	for _, b := range buckets() {
		l = append(l, []api.Bucket{b})
	}
	for seed := range 300 {
		next := numbers(seed)
		f := make([]api.Bucket, 1+seed%12)
		for i := range f {
			f[i] = api.Bucket{Burst: 1 + next(maxBurst>>next(20)), Rate: 1 + next(maxRate>>next(21))}
		}
		l = append(l, f)
	}
	return l
}

// traces are valid ones: empty, at the limits, with several arrivals at one time, and of the greatest length.
func traces() [][]api.Arrival {
	l := [][]api.Arrival{
		nil, {},
		trace(0, 1), trace(0, 2), trace(7, 1), trace(0, maxBurst), trace(maxTime, 1), trace(maxTime, maxBurst), trace(5, 1542, 5, 1542, 5, 1542),
		trace(0, 1, maxTime, 1), trace(0, maxBurst, maxTime, maxBurst), trace(0, maxBurst, 0, 1, maxTime, maxBurst, maxTime, maxBurst),
		trace(0, 100, 10, 50, 2000, 1), trace(0, 100, 799, 1), trace(0, 100, 800, 1), trace(0, 100, 801, 1), trace(0, 100, 100, 1), trace(3, 1, 4, 1, 5, 1, 6, 1),
		trace(0, 1, 2, 1), trace(0, 1, 3, 1), trace(0, 1, 4, 1), trace(0, 1, 1, 1, 2, 1, 8, 1, 9, 1, 10, 1, 11, 1),
		long(200, 0, 1), long(200, 0, maxBurst), long(200, 8, 1), long(200, 7, 1), long(200, 3, 1), long(200, 4, 1), long(200, 800, 100), long(200, maxTime/199, maxBurst),
	}
	last := long(200, 0, maxBurst)
	for i := range last {
		last[i].At = maxTime
	}
	l = append(l, last)
	for seed := range 60 {
		l = append(l, mixed(seed, 1+seed*3, 1+seed*seed*20, 1+seed*40), mixed(seed, 1+seed%12, 6, 2))
	}
	return l
}

// outOfRange are below 0 or above every limit, up to the ends of int.
func outOfRange() []int {
	return []int{-1, -2, -maxRate, -maxTime, maxTime + 1, 1 << 41, 1 << 62, 1<<63 - 1<<20, math.MaxInt - 1, math.MaxInt, math.MinInt, math.MinInt + 1}
}

// invalidServices break one condition of validity or both.
func invalidServices() []api.Serve {
	l := []api.Serve{{}, {Rate: -1, Latency: -1}, {Rate: maxRate + 1, Latency: maxLatency + 1}, {Rate: 0, Latency: maxLatency}, {Rate: maxRate + 1}, {Rate: maxRate + 1, Latency: maxLatency}}
	l = append(l, api.Serve{Rate: 1, Latency: maxLatency + 1}, api.Serve{Rate: maxRate, Latency: maxLatency + 1}, api.Serve{Rate: 1<<32 + 1}, api.Serve{Rate: 1, Latency: 1 << 32})
	for _, n := range outOfRange() {
		l = append(l, api.Serve{Rate: n}, api.Serve{Rate: n, Latency: maxLatency}, api.Serve{Rate: 1, Latency: n}, api.Serve{Rate: maxRate, Latency: n}, api.Serve{Rate: n, Latency: n})
	}
	return l
}

// invalidBuckets break one condition of validity or both.
func invalidBuckets() []api.Bucket {
	l := flow(0, 0, 0, 1, 1, 0, maxBurst+1, 1, maxBurst+1, maxRate, 1, maxRate+1, maxBurst, maxRate+1, 1<<32+1, 1)
	for _, n := range outOfRange() {
		l = append(l, flow(n, 1, n, maxRate, 1, n, maxBurst, n, n, n)...)
	}
	return l
}

// invalidTraces break one condition of validity, at the beginning, in between, or at the end.
func invalidTraces() [][]api.Arrival {
	l := [][]api.Arrival{
		long(201, 0, 1), long(201, 8, 1), long(1000, 0, 1), trace(1, 1, 0, 1), trace(0, 1, 5, 1, 4, 1), trace(maxTime, 1, maxTime-1, 1), trace(maxTime+1, 1),
		trace(0, 0), trace(0, 1, 0, 0), trace(0, maxBurst+1), trace(0, 0, 0, 1), trace(maxTime, maxBurst+1), trace(0, 1, maxTime+1, 1),
	}
	for _, n := range outOfRange() {
		l = append(l, trace(n, 1), trace(0, n), trace(0, 1, n, 1, maxTime, 1), trace(0, 1, 0, n), trace(n, n, n, n))
	}
	return l
}

// valid checks that there is no error and that the result is the wanted one.
func valid[T comparable](t *testing.T, got T, e api.Errno, want T) {
	t.Helper()
	if got != want || e != api.OK {
		t.Errorf("got %v and the error %d, want %v", got, e, want)
	}
}

// invalid checks that there is the wanted error and nothing else.
func invalid[T comparable](t *testing.T, got T, e, want api.Errno) {
	t.Helper()
	var zero T
	if got != zero || e != want {
		t.Errorf("got %v and the error %d, want the error %d", got, e, want)
	}
}

// up is the least integer that is not less than a / b, for positive numbers.
func up(a, b *big.Int) int {
	quotient, rest := new(big.Int).QuoRem(a, b, new(big.Int))
	if rest.Sign() > 0 {
		quotient.Add(quotient, big.NewInt(1))
	}
	return int(quotient.Int64())
}

// product multiplies without overflow.
func product(factors ...int) *big.Int {
	p := big.NewInt(1)
	for _, f := range factors {
		p.Mul(p, big.NewInt(int64(f)))
	}
	return p
}

// delay is what Delay should return, by the chapter's numbers, for valid arguments.
func delay(l []api.Bucket, s api.Serve) (int, api.Errno) {
	var least *big.Rat
	take := func(numerator, denominator *big.Int) {
		n := new(big.Rat).SetFrac(numerator, denominator)
		if least == nil || n.Cmp(least) < 0 {
			least = n
		}
	}
	for _, b := range l {
		if b.Rate > s.Rate {
			continue
		}
		take(product(b.Burst, api.Unit), product(s.Rate))
		for _, a := range l {
			if a.Rate > s.Rate && a.Burst < b.Burst {
				sum := new(big.Int).Add(product(a.Rate-s.Rate, b.Burst), product(s.Rate-b.Rate, a.Burst))
				take(sum.Mul(sum, product(api.Unit)), product(s.Rate, a.Rate-b.Rate))
			}
		}
	}
	if least == nil {
		return 0, api.ErrRate
	}
	return s.Latency + up(least.Num(), least.Denom()), api.OK
}

// departures is what Drain should return, by the definition, for valid arguments.
func departures(l []api.Arrival, s api.Serve) []int {
	var all []int
	for j := range l {
		latest, octets := 0, 0
		for i := j; i >= 0; i-- {
			octets += l[i].Size
			// At most 2^48, so that there is no overflow.
			latest = max(latest, l[i].At+s.Latency+(octets*api.Unit+s.Rate-1)/s.Rate)
		}
		all = append(all, latest)
	}
	return all
}

// checkDrain checks the result of Drain with valid arguments.
func checkDrain(t *testing.T, l []api.Arrival, s api.Serve, want []int) {
	t.Helper()
	if got, e := Drain(l, s); !slices.Equal(got, want) || e != api.OK {
		t.Errorf("Drain(%v, %v) = %v, %d, want %v", l, s, got, e, want)
	}
}

// P4.1: Check.
func TestCheck(t *testing.T) {
	for _, s := range services() {
		if e := Check(s); e != api.OK {
			t.Errorf("Check(%v) = %d", s, e)
		}
	}
	for _, s := range invalidServices() {
		if e := Check(s); e != api.ErrServe {
			t.Errorf("Check(%v) = %d", s, e)
		}
	}
}

// P4.1: Join, for all pairs of services.
func TestJoin(t *testing.T) {
	s := api.Serve{Rate: 1 << 17, Latency: 100}
	got, e := Join(s, api.Serve{Rate: 1 << 16, Latency: 5})
	valid(t, got, e, api.Serve{Rate: 1 << 16, Latency: 105})
	got, e = Join(api.Serve{Rate: 1 << 18, Latency: maxLatency - 100}, s)
	valid(t, got, e, api.Serve{Rate: 1 << 17, Latency: maxLatency})
	got, e = Join(api.Serve{Rate: 1 << 18, Latency: maxLatency - 99}, s)
	invalid(t, got, e, api.ErrBig)
	for _, a := range services() {
		for _, b := range services() {
			got, e := Join(a, b)
			if a.Latency+b.Latency > maxLatency {
				invalid(t, got, e, api.ErrBig)
			} else {
				valid(t, got, e, api.Serve{Rate: min(a.Rate, b.Rate), Latency: a.Latency + b.Latency})
			}
		}
	}
}

// P4.1: an invalid service comes before a sum that is too big.
func TestJoinErrors(t *testing.T) {
	for _, bad := range invalidServices() {
		for _, s := range append(services(), invalidServices()...) {
			got, e := Join(bad, s)
			invalid(t, got, e, api.ErrServe)
			got, e = Join(s, bad)
			invalid(t, got, e, api.ErrServe)
		}
	}
}

// P4.2: the chapter's examples, and what is slow.
func TestDelayExamples(t *testing.T) {
	s := api.Serve{Rate: 1 << 17, Latency: 100}
	for _, c := range []struct {
		l    []api.Bucket
		want int
	}{
		{flow(1000, 1<<16), 8100}, {flow(1001, 1<<17), 8108}, {flow(1000, 1<<16, 100, 1<<18), 5700}, {flow(100, 1<<18, 1000, 1<<16), 5700},
		{flow(1, 1), 108}, {flow(1, 1<<17), 108}, {flow(maxBurst, 1<<17), 8388708},
		// With an equal or greater Burst a fast bucket limits nothing.
		{flow(1000, 1<<16, 1000, 1<<18), 8100}, {flow(1000, 1<<16, 1001, 1<<18), 8100}, {flow(1000, 1<<16, 999, 1<<18), 8098},
		// The least of several slow buckets; of several fast ones; and one of each that limits nothing.
		{flow(1000, 1<<16, 900, 1<<17, 901, 1), 7300}, {flow(1000, 1<<16, 100, 1<<18, 400, 1<<18, 50, 1<<19), 5700}, {flow(1000, 1<<16, 100, 1<<18, 900, 1, 2000, maxRate), 4101},
		// A bucket with the service's Rate is slow, and one more is fast.
		{flow(1000, 1<<17, 500, 1<<17), 4100}, {flow(1000, 1<<17, 500, 1<<17+1), 8100}, {flow(1000, 1<<16, 500, 1<<17+1), 4101},
	} {
		got, e := Delay(c.l, s)
		valid(t, got, e, c.want)
	}
	got, e := Delay(flow(1, 1<<18), s)
	invalid(t, got, e, api.ErrRate)
	got, e = Delay(flow(1, 1<<17+1), s)
	invalid(t, got, e, api.ErrRate)
}

// P4.2: rounding up, and the limits.
func TestDelayRounds(t *testing.T) {
	for _, c := range []struct {
		l    []api.Bucket
		s    api.Serve
		want int
	}{
		{flow(1, 3), api.Serve{Rate: 3}, 349526}, {flow(3, 3), api.Serve{Rate: 3}, 1 << 20}, {flow(1, 1), api.Serve{Rate: maxRate}, 1}, {flow(2, 1), api.Serve{Rate: maxRate}, 1}, {flow(3, 1), api.Serve{Rate: maxRate}, 2},
		{flow(300, 1<<18, 100, 1<<20), api.Serve{Rate: 1 << 19, Latency: 50}, 517},
		// At the limits: the product is near 2^61, and the number near 2^40.
		{flow(maxBurst-1, maxRate, maxBurst, 1), api.Serve{Rate: 1}, 1 << 40}, {flow(maxBurst-1, maxRate, maxBurst, 1), api.Serve{Rate: 2}, 1 << 39}, {flow(maxBurst, 1), api.Serve{Rate: 1, Latency: maxLatency}, 1<<40 + 1<<28},
	} {
		got, e := Delay(c.l, c.s)
		valid(t, got, e, c.want)
	}
}

// P4.2: the chapter's numbers, with math/big, in any order of the buckets.
func TestDelay(t *testing.T) {
	for _, l := range flows() {
		turned := slices.Clone(l)
		slices.Reverse(turned)
		for _, s := range services() {
			want, wrong := delay(l, s)
			for _, f := range [][]api.Bucket{l, turned} {
				if got, e := Delay(f, s); got != want || e != wrong {
					t.Errorf("Delay(%v, %v) = %d, %d, want %d, %d", f, s, got, e, want, wrong)
				}
			}
		}
	}
}

// P4.2: the errors of Delay, each before those that follow it.
func TestDelayErrors(t *testing.T) {
	s := api.Serve{Rate: 1 << 17, Latency: 100}
	allServices := append(invalidServices(), s)
	for _, s := range allServices {
		for _, l := range [][]api.Bucket{nil, {}, make([]api.Bucket, 0, 5)} {
			got, e := Delay(l, s)
			invalid(t, got, e, api.ErrArg)
		}
		for _, l := range [][]api.Bucket{make([]api.Bucket, 13), slices.Repeat(flow(1, 1), 13), slices.Repeat(flow(1, 1<<18), 1000)} {
			got, e := Delay(l, s)
			invalid(t, got, e, api.ErrLong)
		}
		for _, bad := range invalidBuckets() {
			for _, l := range [][]api.Bucket{{bad}, append(flow(1, 1), bad), append([]api.Bucket{bad}, flow(1, 1)...), append(slices.Repeat(flow(1, 1<<18), 11), bad)} {
				got, e := Delay(l, s)
				invalid(t, got, e, api.ErrBucket)
			}
		}
	}
	for _, bad := range invalidServices() {
		for _, l := range [][]api.Bucket{flow(1, 1), flow(1, maxRate), slices.Repeat(flow(maxBurst, 1<<18), 12)} {
			got, e := Delay(l, bad)
			invalid(t, got, e, api.ErrServe)
		}
	}
	got, e := Delay(slices.Repeat(flow(1, 1<<17+1), 12), s)
	invalid(t, got, e, api.ErrRate)
	got, e = Delay(slices.Repeat(flow(1, maxRate), 12), api.Serve{Rate: 1})
	invalid(t, got, e, api.ErrRate)
}

// P4.3: Backlog and Output, with math/big.
func TestBacklogAndOutput(t *testing.T) {
	s := api.Serve{Rate: 1 << 17, Latency: 100}
	b := api.Bucket{Burst: 1000, Rate: 1 << 16}
	backlog, e := Backlog(b, s)
	valid(t, backlog, e, 1007)
	output, e := Output(b, s)
	valid(t, output, e, api.Bucket{Burst: 1507, Rate: 1 << 16})
	for _, s := range services() {
		for _, b := range buckets() {
			got, e := Backlog(b, s)
			out, wrong := Output(b, s)
			if b.Rate > s.Rate {
				invalid(t, got, e, api.ErrRate)
				invalid(t, out, wrong, api.ErrRate)
				continue
			}
			valid(t, got, e, b.Burst+up(product(b.Rate, s.Latency), product(api.Unit)))
			d, _ := delay([]api.Bucket{b}, s)
			burst := b.Burst + up(product(b.Rate, d), product(api.Unit))
			if burst > maxBurst {
				invalid(t, out, wrong, api.ErrBig)
			} else {
				valid(t, out, wrong, api.Bucket{Burst: burst, Rate: b.Rate})
			}
		}
	}
}

// P4.3: the greatest Burst of an output, and one octet more.
func TestOutputLimit(t *testing.T) {
	s := api.Serve{Rate: 1 << 17, Latency: 0}
	for _, c := range []struct {
		b    api.Bucket
		want int
	}{
		{api.Bucket{Burst: maxBurst / 2, Rate: 1 << 17}, maxBurst}, {api.Bucket{Burst: maxBurst/2 + 1, Rate: 1 << 17}, 0}, {api.Bucket{Burst: maxBurst - 1, Rate: 1}, 0},
		{api.Bucket{Burst: maxBurst - 8, Rate: 1}, maxBurst}, {api.Bucket{Burst: maxBurst - 7, Rate: 1}, 0}, {api.Bucket{Burst: maxBurst, Rate: 1}, 0},
	} {
		got, e := Output(c.b, s)
		if c.want == 0 {
			invalid(t, got, e, api.ErrBig)
		} else {
			valid(t, got, e, api.Bucket{Burst: c.want, Rate: c.b.Rate})
		}
	}
}

// P4.3: the errors of Backlog and Output, each before those that follow it.
func TestBacklogAndOutputErrors(t *testing.T) {
	fails := func(b api.Bucket, s api.Serve, want api.Errno) {
		t.Helper()
		got, e := Backlog(b, s)
		invalid(t, got, e, want)
		output, e := Output(b, s)
		invalid(t, output, e, want)
	}
	for _, b := range invalidBuckets() {
		for _, s := range append(invalidServices(), services()...) {
			fails(b, s, api.ErrBucket)
		}
	}
	for _, s := range invalidServices() {
		for _, b := range buckets() {
			fails(b, s, api.ErrServe)
		}
	}
	for _, s := range services() {
		if s.Rate < maxRate {
			// The output would be too big as well.
			fails(api.Bucket{Burst: maxBurst, Rate: s.Rate + 1}, s, api.ErrRate)
			fails(api.Bucket{Burst: 1, Rate: s.Rate + 1}, s, api.ErrRate)
		}
	}
}

// P4.4: the chapter's example, frames that just wait and just do not, and rounding that does not add up.
func TestDrainExamples(t *testing.T) {
	s := api.Serve{Rate: 1 << 17, Latency: 100}
	checkDrain(t, trace(0, 100, 10, 50, 2000, 1), s, []int{900, 1300, 2108})
	checkDrain(t, nil, s, nil)
	checkDrain(t, trace(0, 100, 799, 1), s, []int{900, 908})
	checkDrain(t, trace(0, 100, 800, 1), s, []int{900, 908})
	checkDrain(t, trace(0, 100, 801, 1), s, []int{900, 909})
	// The latency delays every frame, but does not make the next one wait longer.
	checkDrain(t, trace(0, 1, 9, 1), s, []int{108, 117})
	third := api.Serve{Rate: 3 << 18}
	checkDrain(t, trace(0, 1, 0, 1, 0, 1, 1, 1), third, []int{2, 3, 4, 6})
	checkDrain(t, trace(0, 1, 2, 1, 3, 1), third, []int{2, 4, 5})
	last := trace(maxTime, maxBurst, maxTime, maxBurst)
	checkDrain(t, last, api.Serve{Rate: 1, Latency: maxLatency}, []int{maxTime + maxLatency + 1<<40, maxTime + maxLatency + 1<<41})
}

// P4.4: the definition.
func TestDrain(t *testing.T) {
	for _, l := range traces() {
		for _, s := range services() {
			checkDrain(t, l, s, departures(l, s))
		}
	}
}

// P4.4: the errors of Drain, each before those that follow it.
func TestDrainErrors(t *testing.T) {
	fails := func(l []api.Arrival, s api.Serve, want api.Errno) {
		t.Helper()
		if got, e := Drain(l, s); len(got) > 0 || e != want {
			t.Errorf("Drain(%v, %v) = %v, %d, want the error %d", l, s, got, e, want)
		}
	}
	for _, l := range invalidTraces() {
		for _, s := range append(invalidServices(), api.Serve{Rate: 1 << 17, Latency: 100}) {
			fails(l, s, api.ErrTrace)
		}
	}
	for _, s := range invalidServices() {
		fails(nil, s, api.ErrServe)
		fails(trace(0, 1), s, api.ErrServe)
		fails(long(200, 8, maxBurst), s, api.ErrServe)
	}
}

// R3: neither the arguments nor their unused capacity are written.
func TestArgumentsUnchanged(t *testing.T) {
	s := api.Serve{Rate: 1 << 17, Latency: 100}
	buckets := append(slices.Repeat(flow(9, 1<<18, 1000, 1<<16, 500, 1), 4), flow(1, 2, 3, 4)...)
	keptBuckets := slices.Clone(buckets)
	Delay(buckets[:3], s)
	Delay(buckets[:12], s)
	Delay(buckets[:13], s)
	Delay(buckets[:0], api.Serve{})
	if !slices.Equal(buckets, keptBuckets) {
		t.Error("Delay writes to its argument")
	}
	arrivals := mixed(1, 200, 100, 50)
	kept := slices.Clone(arrivals)
	Drain(arrivals[:100], s)
	Drain(arrivals, s)
	Drain(arrivals[:50], api.Serve{})
	if !slices.Equal(arrivals, kept) {
		t.Error("Drain writes to its argument")
	}
}

// The iterator stops when its consumer does.
func TestDistancesStop(t *testing.T) {
	l := flow(1000, 1<<16, 100, 1<<18, 50, 1<<19, 900, 1)
	all := slices.Collect(distances(l, 1<<17))
	for n := range all {
		var some []int
		for d := range distances(l, 1<<17) {
			some = append(some, d)
			if len(some) > n {
				break
			}
		}
		if !slices.Equal(some, all[:n+1]) {
			t.Errorf("the first %d of %v are %v", n+1, all, some)
		}
	}
}
