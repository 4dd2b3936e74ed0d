package bucket

import (
	"cmp"
	"math/big"
	"slices"
	"testing"

	"isochron/api"
)

// smallBuckets have rates around one octet in a tick, in two and in three ticks.
func smallBuckets() []api.Bucket {
	var l []api.Bucket
	for _, rate := range []int{1 << 19, 1 << 20, 1 << 21, 349525, 349526} {
		for burst := 1; burst <= 5; burst++ {
			l = append(l, api.Bucket{Burst: burst, Rate: rate})
		}
	}
	return l
}

// smallTraces are all traces of up to n arrivals with gaps from 0 to 3 and sizes from 1 to 3.
func smallTraces(n int) [][]api.Arrival {
	all := [][]api.Arrival{nil}
	for done := 0; n > 0; n-- {
		longest := all[done:]
		done = len(all)
		for _, l := range longest {
			at := 0
			if len(l) > 0 {
				at = l[len(l)-1].At
			}
			for i := range 12 {
				all = append(all, append(slices.Clip(l), api.Arrival{At: at + i%4, Size: 1 + i/4}))
			}
		}
	}
	return all
}

// lowest is the least token level along l, by the rule of the document, in units of 1 / Unit octet; with an empty trace it is the full level.
func lowest(b api.Bucket, l []api.Arrival) *big.Int {
	full := new(big.Int).Mul(big.NewInt(int64(b.Burst)), big.NewInt(api.Unit))
	level, least := full, full
	for i, a := range l {
		if i > 0 {
			gain := new(big.Int).Mul(big.NewInt(int64(b.Rate)), big.NewInt(int64(a.At-l[i-1].At)))
			level = gain.Add(gain, level)
		}
		if level.Cmp(full) > 0 {
			level = full
		}
		level = new(big.Int).Sub(level, new(big.Int).Mul(big.NewInt(int64(a.Size)), big.NewInt(api.Unit)))
		if level.Cmp(least) < 0 {
			least = level
		}
	}
	return least
}

// accepted is Conforms without an error.
func accepted(t *testing.T, b api.Bucket, l []api.Arrival) bool {
	t.Helper()
	ok, e := Conforms(b, l)
	if e != api.OK {
		t.Errorf("Conforms(%v, %v): %d", b, l, e)
	}
	return ok
}

// P3.2 and P3.5: the definitions, for all small traces.
func TestSmallTraces(t *testing.T) {
	for _, l := range smallTraces(3) {
		for _, b := range smallBuckets() {
			checkFirst(t, b, l, first(b, l))
		}
		for _, rate := range []int{1 << 19, 1 << 20, 1 << 21, 349525, 349526} {
			want, e := least(rate, l)
			checkLeast(t, rate, l, want, e)
		}
	}
}

// P3.5: the trace conforms with the burst that was found, and not with one octet less.
func TestLeastIsLeast(t *testing.T) {
	for _, l := range append(smallTraces(3), traces()...) {
		for _, rate := range []int{1, 349525, 349526, 1 << 17, 1 << 20, 1 << 21} {
			burst, e := Least(rate, l)
			if e == api.ErrBig {
				if accepted(t, api.Bucket{Burst: maxBurst, Rate: rate}, l) {
					t.Errorf("Least(%d, %v): ErrBig, but it conforms to a bucket", rate, l)
				}
				continue
			}
			if e != api.OK || !accepted(t, api.Bucket{Burst: burst, Rate: rate}, l) {
				t.Errorf("Least(%d, %v) = %d, %d, to which it does not conform", rate, l, burst, e)
			}
			if burst > 1 && accepted(t, api.Bucket{Burst: burst - 1, Rate: rate}, l) {
				t.Errorf("Least(%d, %v) = %d, but it conforms to less", rate, l, burst)
			}
		}
	}
}

// P3.3: a trace with as many octets as Within tells conforms; with one more it does not.
func TestWithinIsGreatest(t *testing.T) {
	for _, b := range append(smallBuckets(), buckets()...) {
		for _, ticks := range []int{0, 1, 2, 3, 4, 5, 8, 100, 1 << 19} {
			n, e := Within(b, ticks)
			if e != api.OK || n-b.Burst > b.Burst {
				continue // more than one frame would be needed in between
			}
			l := trace(0, b.Burst)
			if n > b.Burst {
				l = append(l, api.Arrival{At: ticks, Size: n - b.Burst})
			}
			more := append(slices.Clip(l), api.Arrival{At: ticks, Size: 1})
			if !accepted(t, b, l) || accepted(t, b, more) {
				t.Errorf("Within(%v, %d) = %d is not the greatest number of octets", b, ticks, n)
			}
		}
	}
}

// P3.6
func TestLevelDecides(t *testing.T) {
	check := func(b api.Bucket, l []api.Arrival) {
		if ok := accepted(t, b, l); ok != (lowest(b, l).Sign() >= 0) {
			t.Errorf("Conforms(%v, %v) = %v, but the least level is %v", b, l, ok, lowest(b, l))
		}
	}
	for _, l := range smallTraces(4) {
		for _, b := range smallBuckets() {
			check(b, l)
		}
	}
	for _, l := range traces() {
		for _, b := range buckets() {
			check(b, l)
		}
	}
}

// P3.6: a part is what is left of a trace if any of its arrivals are left out.
func TestPartsConform(t *testing.T) {
	conforming := 0
	for _, l := range smallTraces(4) {
		for _, b := range smallBuckets() {
			if !accepted(t, b, l) {
				continue
			}
			conforming++
			for chosen := range 1 << len(l) {
				var part []api.Arrival
				for i, a := range l {
					if chosen>>i&1 == 1 {
						part = append(part, a)
					}
				}
				if !accepted(t, b, part) {
					t.Errorf("%v conforms to %v, but not its part %v", l, b, part)
				}
			}
		}
	}
	if conforming < 1000 {
		t.Error("too few traces conform:", conforming)
	}
}

// merged are the arrivals of both traces by time.
func merged(k, l []api.Arrival) []api.Arrival {
	both := slices.Concat(k, l)
	slices.SortStableFunc(both, func(a, b api.Arrival) int { return cmp.Compare(a.At, b.At) })
	return both
}

// P3.6
func TestMergedConform(t *testing.T) {
	var all [][]api.Arrival
	for _, l := range append(smallTraces(2), traces()...) {
		if len(l) <= api.MaxTrace/2 {
			all = append(all, l)
		}
	}
	pairs := 0
	for _, b := range append(buckets(), smallBuckets()[:8]...) {
		for _, c := range buckets() {
			sum, e := Sum([]api.Bucket{b, c})
			if e != api.OK {
				continue
			}
			pairs += checkMerged(t, b, c, sum, all)
		}
	}
	if pairs < 10000 {
		t.Error("too few pairs of traces were merged:", pairs)
	}
}

// checkMerged merges those of the traces that conform to b with those that conform to c, and returns how many pairs there are.
func checkMerged(t *testing.T, b, c, sum api.Bucket, all [][]api.Arrival) int {
	t.Helper()
	pairs := 0
	for _, k := range all {
		if !accepted(t, b, k) {
			continue
		}
		for _, l := range all {
			if !accepted(t, c, l) {
				continue
			}
			pairs++
			if !accepted(t, sum, merged(k, l)) {
				t.Errorf("%v conforms to %v and %v to %v, but both do not conform to %v", k, b, l, c, sum)
			}
		}
	}
	return pairs
}
