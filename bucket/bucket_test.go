package bucket

import (
	"math"
	"math/big"
	"slices"
	"testing"

	"isochron/api"
)

const (
	maxBurst = 1 << 20
	maxRate  = 1 << 21
	maxTime  = 1 << 40
)

// trace makes arrivals of numbers in pairs: when each arrives, and its size.
func trace(numbers ...int) []api.Arrival {
	var l []api.Arrival
	for pair := range slices.Chunk(numbers, 2) {
		l = append(l, api.Arrival{At: pair[0], Size: pair[1]})
	}
	return l
}

// long makes n arrivals of one size, gap ticks apart.
func long(n, gap, size int) []api.Arrival {
	l := make([]api.Arrival, n)
	for i := range l {
		l[i] = api.Arrival{At: i * gap, Size: size}
	}
	return l
}

// mixed makes n arrivals with gaps below gap and sizes up to size; a third of the gaps is 0. Every seed has its own trace.
func mixed(seed, n, gap, size int) []api.Arrival {
	state := uint64(seed)
	next := func(below int) int {
		state = state*6364136223846793005 + 1442695040888963407
		return int((state >> 33) % uint64(below))
	}
	l := make([]api.Arrival, n)
	at := 0
	for i := range l {
		if next(3) > 0 {
			at += next(gap)
		}
		l[i] = api.Arrival{At: at, Size: 1 + next(size)}
	}
	return l
}

// buckets are valid ones: ordinary, at the limits, and with rates that do not divide Unit.
func buckets() []api.Bucket {
	return []api.Bucket{
		{Burst: 1000, Rate: 1 << 17}, {Burst: 200, Rate: 1 << 14}, {Burst: 1, Rate: 1}, {Burst: 1, Rate: maxRate}, {Burst: maxBurst, Rate: 1}, {Burst: maxBurst, Rate: maxRate},
		{Burst: 2, Rate: 349525}, {Burst: 2, Rate: 349526}, {Burst: 1542, Rate: 99999}, {Burst: maxBurst - 1, Rate: maxRate - 1}, {Burst: 3000, Rate: 1 << 20},
	}
}

// traces are valid ones: empty, at the limits, with several arrivals at one time, and of the greatest length.
func traces() [][]api.Arrival {
	l := [][]api.Arrival{
		nil, {},
		trace(0, 1), trace(0, 2), trace(0, maxBurst), trace(maxTime, 1), trace(maxTime, maxBurst), trace(5, 1542, 5, 1542, 5, 1542),
		trace(0, 1, maxTime, 1), trace(0, maxBurst, maxTime, maxBurst), trace(0, maxBurst, 0, 1, maxTime, maxBurst, maxTime, maxBurst),
		trace(0, 1, 100000, 600, 100000, 401), trace(0, 2, 3, 1), trace(0, 2, 4, 1), trace(0, 1000, 7, 1), trace(0, 1000, 8, 1, 8, 1),
		trace(0, maxBurst, maxBurst-1, 1), trace(0, maxBurst, maxBurst, 1), trace(0, maxBurst, maxBurst, 1, maxBurst, 1),
		long(200, 0, 1), long(200, 0, maxBurst), long(200, 8, 1), long(200, 7, 1), long(200, 800, 100), long(200, maxTime/199, maxBurst),
	}
	for seed := range 40 {
		l = append(l, mixed(seed, 1+seed*5, 1+seed*seed*20, 1+seed*40))
	}
	return l
}

// invalidBuckets break one condition of validity or both, up to the ends of int.
func invalidBuckets() []api.Bucket {
	l := []api.Bucket{{}, {Burst: -1, Rate: -1}, {Burst: maxBurst + 1, Rate: maxRate + 1}, {Burst: math.MinInt, Rate: math.MinInt}, {Burst: math.MaxInt, Rate: math.MaxInt}, {Burst: math.MinInt, Rate: math.MaxInt}}
	for _, n := range []int{0, -1, -maxBurst, maxRate + 1, 1 << 31, 1<<32 + 1, -1<<32 + 1, 1<<62 + 1, math.MaxInt, math.MinInt, math.MinInt + 1} {
		l = append(l, api.Bucket{Burst: n, Rate: 1}, api.Bucket{Burst: n, Rate: maxRate}, api.Bucket{Burst: 1, Rate: n}, api.Bucket{Burst: maxBurst, Rate: n})
	}
	return append(l, api.Bucket{Burst: maxBurst + 1, Rate: 1})
}

// invalidTraces break one condition of validity or more, at the beginning, in between, at the end, and up to the ends of int.
func invalidTraces() [][]api.Arrival {
	l := [][]api.Arrival{
		long(201, 0, 1), long(201, 8, 1), long(201, 1, 0), long(1000, 0, 1), long(1<<16+1, 0, 1),
		trace(1, 1, 0, 1), trace(0, 1, 5, 1, 4, 1), trace(5, 1, 5, 1, 0, 1), trace(0, 1, 9, 1, 8, 1, 9, 1), trace(maxTime, 1, maxTime-1, 1), trace(maxTime, 1, 0, 1),
		trace(0, 0), trace(-1, 0), trace(maxTime+1, maxBurst+1), trace(-2, 1, -1, 1),
		trace(math.MinInt, 1, math.MaxInt, 1), trace(math.MaxInt, 1, math.MinInt, 1), trace(math.MinInt, math.MinInt), trace(math.MaxInt, math.MaxInt),
	}
	for _, a := range invalidArrivals() {
		last := long(200, 0, 1)
		last[199] = a
		l = append(l, []api.Arrival{a}, []api.Arrival{a, {At: maxTime, Size: 1}}, []api.Arrival{{At: 0, Size: 1}, a, {At: maxTime, Size: 1}}, []api.Arrival{{At: 0, Size: 1}, a}, last)
	}
	return l
}

// invalidArrivals are invalid wherever they are.
func invalidArrivals() []api.Arrival {
	var l []api.Arrival
	for _, n := range []int{-1, -maxTime, maxTime + 1, 1 << 41, 1 << 62, math.MaxInt, math.MinInt} {
		l = append(l, api.Arrival{At: n, Size: 1}, api.Arrival{At: n, Size: maxBurst})
	}
	for _, n := range []int{0, -1, -maxBurst, maxBurst + 1, 1 << 31, 1<<32 + 1, -1<<32 + 1, 1<<62 + 1, math.MaxInt, math.MinInt, math.MinInt + 1} {
		l = append(l, api.Arrival{At: 0, Size: n}, api.Arrival{At: maxTime, Size: n})
	}
	return l
}

// first is the definition of First: the first arrival that ends an interval with too many octets.
func first(b api.Bucket, l []api.Arrival) int {
	for j := range l {
		octets := -b.Burst
		for i := j; i >= 0; i-- {
			octets += l[i].Size
			if tooMany(b.Rate, octets, l[j].At-l[i].At) {
				return j
			}
		}
	}
	return -1
}

// tooMany says whether so many octets are more than Rate * t / Unit.
func tooMany(rate, octets, t int) bool {
	left := new(big.Int).Mul(big.NewInt(int64(octets)), big.NewInt(api.Unit))
	return left.Cmp(new(big.Int).Mul(big.NewInt(int64(rate)), big.NewInt(int64(t)))) > 0
}

// least is what Least should return: every interval needs its octets, less those that it gains.
func least(rate int, l []api.Arrival) (int, api.Errno) {
	burst := 1
	for i := range l {
		octets := 0
		for j := i; j < len(l); j++ {
			octets += l[j].Size
			burst = max(burst, octets-gained(rate, l[j].At-l[i].At))
		}
	}
	if burst > maxBurst {
		return 0, api.ErrBig
	}
	return burst, api.OK
}

// gained is Rate * t / Unit, rounded down.
func gained(rate, t int) int {
	n := new(big.Int).Mul(big.NewInt(int64(rate)), big.NewInt(int64(t)))
	return int(n.Div(n, big.NewInt(api.Unit)).Int64())
}

// checkFirst compares First and Conforms with what they should return for valid arguments.
func checkFirst(t *testing.T, b api.Bucket, l []api.Arrival, want int) {
	t.Helper()
	if n, e := First(b, l); n != want || e != api.OK {
		t.Errorf("First(%v, %v) = %d, %d; want %d, OK", b, l, n, e, want)
	}
	if ok, e := Conforms(b, l); ok != (want == -1) || e != api.OK {
		t.Errorf("Conforms(%v, %v) = %v, %d; want %v, OK", b, l, ok, e, want == -1)
	}
}

func checkLeast(t *testing.T, rate int, l []api.Arrival, want int, wantErr api.Errno) {
	t.Helper()
	if n, e := Least(rate, l); n != want || e != wantErr {
		t.Errorf("Least(%d, %v) = %d, %d; want %d, %d", rate, l, n, e, want, wantErr)
	}
}

func checkSum(t *testing.T, l []api.Bucket, want api.Bucket, wantErr api.Errno) {
	t.Helper()
	if b, e := Sum(l); b != want || e != wantErr {
		t.Errorf("Sum(%v) = %v, %d; want %v, %d", l, b, e, want, wantErr)
	}
}

// P3.1
func TestCheck(t *testing.T) {
	for _, b := range buckets() {
		if e := Check(b); e != api.OK {
			t.Errorf("Check(%v) = %d; want OK", b, e)
		}
	}
	for _, b := range invalidBuckets() {
		if e := Check(b); e != api.ErrBucket {
			t.Errorf("Check(%v) = %d; want ErrBucket", b, e)
		}
	}
}

// P3.1
func TestCheckTrace(t *testing.T) {
	for _, l := range traces() {
		if e := CheckTrace(l); e != api.OK {
			t.Errorf("CheckTrace(%v) = %d; want OK", l, e)
		}
	}
	for _, l := range invalidTraces() {
		if e := CheckTrace(l); e != api.ErrTrace {
			t.Errorf("CheckTrace of %d elements: %d; want ErrTrace", len(l), e)
		}
	}
}

// P3.2
func TestConformance(t *testing.T) {
	b := api.Bucket{Burst: 1000, Rate: 1 << 17} // one octet in 8 ticks
	for _, c := range []struct {
		b    api.Bucket
		l    []api.Arrival
		want int
	}{
		{b, nil, -1},
		{b, []api.Arrival{}, -1},
		{b, trace(0, 600, 0, 400), -1},
		{b, trace(0, 600, 0, 401), 1},
		{b, trace(0, 1000, 800, 100), -1},
		{b, trace(0, 1000, 7, 1), 1},
		{b, trace(0, 1000, 8, 1, 8, 1), 2},
		{b, trace(0, 1000, 8, 1, 15, 1), 2},
		{b, trace(0, 1000, 8, 1, 16, 1), -1},
		{b, trace(0, 1001), 0},
		{b, trace(maxTime, 1000), -1},
		{b, trace(maxTime, 1001), 0},
		{b, trace(0, 1001, maxTime, 1), 0}, // what comes later does not heal it
		{b, trace(0, 500, 4000, 1000, 4000, 1), 2},
		// The first arrival is long ago, and tokens are not saved up for more than Burst.
		{b, trace(0, 1, 100000, 600, 100000, 401), 2},
		{b, trace(0, 1, 100000, 600, 100000, 400), -1},
		{b, trace(0, 1, 100000, 1000, 100007, 1), 2},
		{b, trace(0, 900, 100, 100, 100, 13), 2},
		{b, trace(0, 900, 100, 100, 100, 12), -1},
		{b, trace(7, 1000, 7, 1, 7, 1), 1},
		// Rate * 3 is a bit less than Unit, or a bit more.
		{api.Bucket{Burst: 2, Rate: 349525}, trace(0, 2, 3, 1), 1},
		{api.Bucket{Burst: 2, Rate: 349525}, trace(0, 2, 4, 1), -1},
		{api.Bucket{Burst: 2, Rate: 349526}, trace(0, 2, 3, 1), -1},
		{api.Bucket{Burst: 1, Rate: 1}, trace(0, 1, maxBurst-1, 1), 1},
		{api.Bucket{Burst: 1, Rate: 1}, trace(0, 1, maxBurst, 1), -1},
		{api.Bucket{Burst: 1, Rate: 1}, trace(0, 2), 0},
		{api.Bucket{Burst: 1, Rate: maxRate}, trace(0, 1, 0, 1), 1},
		{api.Bucket{Burst: 1, Rate: maxRate}, trace(0, 1, 1, 1), -1},
		{api.Bucket{Burst: 1, Rate: maxRate}, trace(0, 1, 1, 2), 1},
		{api.Bucket{Burst: 2, Rate: maxRate}, long(200, 1, 2), -1},
		{api.Bucket{Burst: maxBurst, Rate: maxRate}, trace(0, maxBurst, maxTime, maxBurst), -1},
		{api.Bucket{Burst: maxBurst, Rate: maxRate}, trace(0, maxBurst, maxTime, maxBurst, maxTime, 1), 2},
		{api.Bucket{Burst: maxBurst, Rate: 1}, trace(0, maxBurst, 0, 1), 1},
		{api.Bucket{Burst: maxBurst, Rate: 1}, long(200, 0, maxBurst), 1},
		{api.Bucket{Burst: 200, Rate: 1}, long(200, 0, 1), -1},
		{api.Bucket{Burst: 199, Rate: 1}, long(200, 0, 1), 199},
	} {
		checkFirst(t, c.b, c.l, c.want)
	}
}

// P3.2: the definition, at all edges.
func TestConformanceByDefinition(t *testing.T) {
	conforming, not := 0, 0
	for _, b := range buckets() {
		for _, l := range traces() {
			want := first(b, l)
			checkFirst(t, b, l, want)
			if want < 0 {
				conforming++
			} else {
				not++
			}
		}
	}
	if min(conforming, not) < 100 {
		t.Error("one of both outcomes is hardly tested:", conforming, not)
	}
}

// P3.2
func TestConformanceErrors(t *testing.T) {
	for _, b := range invalidBuckets() {
		for _, l := range [][]api.Arrival{nil, trace(0, 1), trace(0, maxBurst, 0, maxBurst), long(200, 0, 1), trace(0, 0), trace(1, 1, 0, 1), long(201, 0, 1)} {
			checkError(t, b, l, api.ErrBucket)
		}
	}
	for _, l := range invalidTraces() {
		for _, b := range buckets() {
			checkError(t, b, l, api.ErrTrace)
		}
		checkError(t, api.Bucket{}, l, api.ErrBucket)
	}
}

// checkError wants an error of First and Conforms, and zero values with it.
func checkError(t *testing.T, b api.Bucket, l []api.Arrival, want api.Errno) {
	t.Helper()
	if n, e := First(b, l); n != 0 || e != want {
		t.Errorf("First(%v, %d elements) = %d, %d; want 0, %d", b, len(l), n, e, want)
	}
	if ok, e := Conforms(b, l); ok || e != want {
		t.Errorf("Conforms(%v, %d elements) = %v, %d; want false, %d", b, len(l), ok, e, want)
	}
}

// P3.3
func TestWithin(t *testing.T) {
	b := api.Bucket{Burst: 1000, Rate: 1 << 17}
	for _, c := range []struct {
		b       api.Bucket
		t, want int
		e       api.Errno
	}{
		{b, 0, 1000, api.OK},
		{b, 7, 1000, api.OK},
		{b, 8, 1001, api.OK},
		{b, 15, 1001, api.OK},
		{b, 16, 1002, api.OK},
		{b, api.Unit, 1000 + 1<<17, api.OK},
		{api.Bucket{Burst: 200, Rate: 16384}, 1024, 216, api.OK},
		{api.Bucket{Burst: 1, Rate: 349525}, 3, 1, api.OK},
		{api.Bucket{Burst: 1, Rate: 349526}, 3, 2, api.OK},
		{api.Bucket{Burst: 1, Rate: 1}, api.Unit - 1, 1, api.OK},
		{api.Bucket{Burst: 1, Rate: 1}, api.Unit, 2, api.OK},
		{api.Bucket{Burst: 1, Rate: 1}, maxTime, 1 + maxBurst, api.OK},
		{api.Bucket{Burst: maxBurst, Rate: maxRate}, maxTime, maxBurst + 1<<41, api.OK},
		{api.Bucket{Burst: maxBurst, Rate: maxRate}, maxTime - 1, maxBurst + 1<<41 - 2, api.OK},
		{b, maxTime, 1000 + 1<<37, api.OK},
		{b, -1, 0, api.ErrArg},
		{b, maxTime + 1, 0, api.ErrArg},
		{b, 1 << 50, 0, api.ErrArg},
		{b, 1<<50 + 1, 0, api.ErrArg},
		{b, math.MaxInt, 0, api.ErrArg},
		{b, math.MinInt, 0, api.ErrArg},
	} {
		if n, e := Within(c.b, c.t); n != c.want || e != c.e {
			t.Errorf("Within(%v, %d) = %d, %d; want %d, %d", c.b, c.t, n, e, c.want, c.e)
		}
	}
}

// P3.3
func TestWithinByDefinition(t *testing.T) {
	for _, b := range buckets() {
		for _, ticks := range []int{0, 1, 2, 3, 4, 7, 8, 9, 1000, api.Unit - 1, api.Unit, api.Unit + 1, 1<<29 + 1, 1<<30 - 1, maxTime / 3, maxTime - 1, maxTime} {
			if n, e := Within(b, ticks); n != b.Burst+gained(b.Rate, ticks) || e != api.OK {
				t.Errorf("Within(%v, %d) = %d, %d", b, ticks, n, e)
			}
		}
	}
}

// P3.3: an invalid bucket is reported before an invalid time.
func TestWithinErrors(t *testing.T) {
	for _, b := range invalidBuckets() {
		for _, ticks := range []int{0, 1, maxTime, -1, maxTime + 1, math.MinInt, math.MaxInt} {
			if n, e := Within(b, ticks); n != 0 || e != api.ErrBucket {
				t.Errorf("Within(%v, %d) = %d, %d; want 0, ErrBucket", b, ticks, n, e)
			}
		}
	}
}

// P3.4
func TestSum(t *testing.T) {
	b := api.Bucket{Burst: 1000, Rate: 1 << 17}
	most := api.Bucket{Burst: maxBurst, Rate: maxRate}
	for _, c := range []struct {
		l    []api.Bucket
		want api.Bucket
		e    api.Errno
	}{
		{nil, api.Bucket{}, api.ErrArg},
		{[]api.Bucket{}, api.Bucket{}, api.ErrArg},
		{[]api.Bucket{b}, b, api.OK},
		{[]api.Bucket{b, {Burst: 24, Rate: 1 << 20}}, api.Bucket{Burst: 1024, Rate: 9 << 17}, api.OK},
		{[]api.Bucket{b, b, b}, api.Bucket{Burst: 3000, Rate: 3 << 17}, api.OK},
		{slices.Repeat([]api.Bucket{b}, 12), api.Bucket{Burst: 12000, Rate: 12 << 17}, api.OK},
		{slices.Repeat([]api.Bucket{b}, 13), api.Bucket{}, api.ErrLong},
		{slices.Repeat([]api.Bucket{b}, 1000), api.Bucket{}, api.ErrLong},
		{slices.Repeat([]api.Bucket{most}, 12), api.Bucket{}, api.ErrBig},
		{slices.Repeat([]api.Bucket{most}, 13), api.Bucket{}, api.ErrLong},
		{[]api.Bucket{most}, most, api.OK},
		{[]api.Bucket{{Burst: maxBurst - 1, Rate: 1}, {Burst: 1, Rate: 1}}, api.Bucket{Burst: maxBurst, Rate: 2}, api.OK},
		{[]api.Bucket{{Burst: maxBurst, Rate: 1}, {Burst: 1, Rate: 1}}, api.Bucket{}, api.ErrBig},
		{[]api.Bucket{{Burst: 1, Rate: maxRate - 1}, {Burst: 1, Rate: 1}}, api.Bucket{Burst: 2, Rate: maxRate}, api.OK},
		{[]api.Bucket{{Burst: 1, Rate: 1}, {Burst: 1, Rate: maxRate}}, api.Bucket{}, api.ErrBig},
		{[]api.Bucket{{Burst: maxBurst / 2, Rate: maxRate / 2}, {Burst: maxBurst / 2, Rate: maxRate / 2}}, most, api.OK},
		{[]api.Bucket{most, {Burst: 1, Rate: 1}}, api.Bucket{}, api.ErrBig},
	} {
		checkSum(t, c.l, c.want, c.e)
	}
}

// P3.4: an invalid element is reported wherever it is, after ErrArg and ErrLong, before ErrBig, and if the sum is valid all the same.
func TestSumErrors(t *testing.T) {
	b, most := api.Bucket{Burst: 1000, Rate: 1 << 17}, api.Bucket{Burst: maxBurst, Rate: maxRate}
	for _, bad := range invalidBuckets() {
		checkSum(t, []api.Bucket{bad}, api.Bucket{}, api.ErrBucket)
		checkSum(t, []api.Bucket{most, most, bad}, api.Bucket{}, api.ErrBucket)
		checkSum(t, []api.Bucket{bad, most, most}, api.Bucket{}, api.ErrBucket)
		for i := range 12 {
			l := slices.Repeat([]api.Bucket{b}, 12)
			l[i] = bad
			checkSum(t, l, api.Bucket{}, api.ErrBucket)
		}
		checkSum(t, slices.Repeat([]api.Bucket{bad}, 13), api.Bucket{}, api.ErrLong)
		checkSum(t, slices.Repeat([]api.Bucket{bad}, 12), api.Bucket{}, api.ErrBucket)
	}
	checkSum(t, []api.Bucket{b, {Burst: -900, Rate: 1}}, api.Bucket{}, api.ErrBucket)
	checkSum(t, []api.Bucket{{Burst: 1, Rate: maxRate + 1}, {Burst: 1, Rate: -1}}, api.Bucket{}, api.ErrBucket)
	checkSum(t, []api.Bucket{{Burst: math.MinInt, Rate: 1}, {Burst: math.MinInt, Rate: 1}, {Burst: 5, Rate: 1}}, api.Bucket{}, api.ErrBucket)
}

// P3.5
func TestLeast(t *testing.T) {
	for _, c := range []struct {
		rate int
		l    []api.Arrival
		want int
		e    api.Errno
	}{
		{1 << 17, trace(0, 100, 80, 100, 80, 100), 290, api.OK},
		{1 << 17, nil, 1, api.OK},
		{1 << 17, []api.Arrival{}, 1, api.OK},
		{1 << 17, trace(0, 1), 1, api.OK},
		{1 << 17, trace(maxTime, 1), 1, api.OK},
		{1 << 17, trace(0, 1, 8, 1, 16, 1), 1, api.OK},
		{1 << 17, trace(0, 1, 7, 1), 2, api.OK},
		{1 << 17, trace(0, 1, 7, 1, 14, 1), 2, api.OK},
		{1 << 17, trace(0, 100, 7, 1), 101, api.OK},
		{1 << 17, trace(0, 100, 8, 1), 100, api.OK},
		{1 << 17, trace(0, 1, 100000, 600, 100000, 401), 1001, api.OK},
		{1 << 17, trace(0, 500, 100000, 1), 500, api.OK},
		{349525, trace(0, 2, 3, 2), 4, api.OK},
		{349526, trace(0, 2, 3, 2), 3, api.OK},
		{1, long(200, 0, 1), 200, api.OK},
		{maxRate, long(200, 1, 2), 2, api.OK},
		{maxRate, long(200, 1, 3), 3 + 199, api.OK},
		{1, trace(0, maxBurst), maxBurst, api.OK},
		{maxRate, trace(maxTime, maxBurst), maxBurst, api.OK},
		{1, trace(0, maxBurst-1, 0, 1), maxBurst, api.OK},
		{1, trace(0, maxBurst-1, 0, 2), 0, api.ErrBig},
		{1, trace(0, maxBurst, 0, 1), 0, api.ErrBig},
		{1, trace(0, maxBurst, maxBurst-1, 1), 0, api.ErrBig},
		{1, trace(0, maxBurst, maxBurst, 1), maxBurst, api.OK},
		{2, trace(0, maxBurst, maxBurst/2, 1), maxBurst, api.OK},
		{2, trace(0, maxBurst, maxBurst/2-1, 1), 0, api.ErrBig},
		{1, long(200, 0, maxBurst), 0, api.ErrBig},
		{maxRate, trace(0, maxBurst, maxTime, maxBurst), maxBurst, api.OK},
		{maxRate, trace(0, maxBurst, maxTime, maxBurst, maxTime, 1), 0, api.ErrBig},
		{0, nil, 0, api.ErrArg},
		{-1, trace(0, 1), 0, api.ErrArg},
		{maxRate + 1, trace(0, 1), 0, api.ErrArg},
		{1<<32 + 1, trace(0, 1), 0, api.ErrArg},
		{math.MaxInt, trace(0, 1), 0, api.ErrArg},
		{math.MinInt, trace(0, 1), 0, api.ErrArg},
		{0, long(200, 0, maxBurst), 0, api.ErrArg},
		{0, trace(0, 0), 0, api.ErrArg},
		{maxRate + 1, trace(1, 1, 0, 1), 0, api.ErrArg},
		{math.MinInt, long(201, 0, 1), 0, api.ErrArg},
		// These are invalid, and too much as well.
		{1, trace(0, maxBurst, 0, maxBurst, 0, 0), 0, api.ErrTrace},
		{1, long(201, 0, maxBurst), 0, api.ErrTrace},
	} {
		checkLeast(t, c.rate, c.l, c.want, c.e)
	}
}

// P3.5: the definition, at all edges.
func TestLeastByDefinition(t *testing.T) {
	for _, b := range buckets() {
		for _, l := range traces() {
			want, e := least(b.Rate, l)
			checkLeast(t, b.Rate, l, want, e)
		}
		for _, l := range invalidTraces() {
			checkLeast(t, b.Rate, l, 0, api.ErrTrace)
		}
	}
}

// R3: neither the elements nor the unused capacity of an argument are written to.
func TestArgumentsAreLeft(t *testing.T) {
	l := trace(0, 1000, 7, 1, 9, 5, 3, 77, 1, 88)
	CheckTrace(l[:3])
	First(api.Bucket{Burst: 1000, Rate: 1 << 17}, l[:3])
	Conforms(api.Bucket{Burst: 1000, Rate: 1 << 17}, l[:3])
	Least(1<<17, l[:3])
	if !slices.Equal(l, trace(0, 1000, 7, 1, 9, 5, 3, 77, 1, 88)) {
		t.Error(l)
	}
	s := buckets()
	Sum(s[:2])
	if !slices.Equal(s, buckets()) {
		t.Error(s)
	}
}
