package curve

import (
	"math/big"
	"slices"
	"testing"

	"isochron/api"
	"isochron/bucket"
)

// smallTraces are all traces of up to n arrivals with gaps from 0 to 2 and sizes from 1 to 2.
func smallTraces(n int) [][]api.Arrival {
	all := [][]api.Arrival{nil}
	for done := 0; n > 0; n-- {
		longest := all[done:]
		done = len(all)
		for _, l := range longest {
			at := 0
			if len(l) > 0 {
				at = l[len(l)-1].At
			}
			for i := range 6 {
				all = append(all, append(slices.Clip(l), api.Arrival{At: at + i%3, Size: 1 + i/3}))
			}
		}
	}
	return all
}

// smallServices have rates around one octet in a tick, in two and in three ticks.
func smallServices() []api.Serve {
	var l []api.Serve
	for _, rate := range []int{349525, 349526, 1 << 19, 700000, 1 << 20, maxRate} {
		l = append(l, api.Serve{Rate: rate}, api.Serve{Rate: rate, Latency: 2})
	}
	return l
}

// tight makes for each rate the bucket with the least Burst to which l conforms.
func tight(t *testing.T, l []api.Arrival, rates ...int) []api.Bucket {
	t.Helper()
	var f []api.Bucket
	for _, rate := range rates {
		burst, e := bucket.Least(rate, l)
		if e != api.OK {
			t.Fatalf("Least(%d, %v): %d", rate, l, e)
		}
		f = append(f, api.Bucket{Burst: burst, Rate: rate})
	}
	return f
}

// subsets are all parts of f but the empty one.
func subsets(f []api.Bucket) [][]api.Bucket {
	var all [][]api.Bucket
	for _, b := range f {
		for _, part := range all {
			all = append(all, append(slices.Clip(part), b))
		}
		all = append(all, []api.Bucket{b})
	}
	return all
}

// promised is a trace that conforms to each of some buckets, and a service.
type promised struct {
	arrivals []api.Arrival
	buckets  []api.Bucket
	s        api.Serve
}

// eachPromised calls check for all small traces and for long ones, with their tight buckets and services of which some are too slow.
func eachPromised(t *testing.T, check func(p promised)) {
	t.Helper()
	for _, l := range smallTraces(4) {
		for _, f := range subsets(tight(t, l, 349525, 1<<19, 800000, maxRate)) {
			for _, s := range smallServices() {
				check(promised{l, f, s})
			}
		}
	}
	for seed := range 60 {
		l := mixed(seed, 1+seed*2, 1+seed*20, 1+seed*30)
		for _, f := range subsets(tight(t, l, 1<<15, 99999, 1<<18, 1<<20)) {
			for _, s := range []api.Serve{{Rate: 1 << 16, Latency: 100}, {Rate: 100000, Latency: 12345}, {Rate: 1<<18 + 1}, {Rate: maxRate, Latency: maxLatency}} {
				check(promised{l, f, s})
			}
		}
	}
}

// distance is the greatest horizontal distance between the least of the limits of l and the line with the slope rate, in ticks.
func distance(l []api.Bucket, rate int) *big.Rat {
	unit := big.NewRat(api.Unit, 1)
	at := func(time *big.Rat) *big.Rat {
		var least *big.Rat
		for _, b := range l {
			octets := new(big.Rat).Mul(big.NewRat(int64(b.Rate), api.Unit), time)
			octets.Add(octets, big.NewRat(int64(b.Burst), 1))
			if least == nil || octets.Cmp(least) < 0 {
				least = octets
			}
		}
		sent := new(big.Rat).Quo(new(big.Rat).Mul(least, unit), big.NewRat(int64(rate), 1))
		return sent.Sub(sent, time)
	}
	// The least of the limits is concave and has corners only where two of them cross.
	greatest := at(new(big.Rat))
	for _, a := range l {
		for _, b := range l {
			if a.Rate > b.Rate && a.Burst <= b.Burst {
				time := new(big.Rat).Mul(unit, big.NewRat(int64(b.Burst-a.Burst), int64(a.Rate-b.Rate)))
				if d := at(time); d.Cmp(greatest) > 0 {
					greatest = d
				}
			}
		}
	}
	return greatest
}

// The clearing time is the greatest horizontal distance, rounded up.
func TestDelayIsDistance(t *testing.T) {
	for i, l := range flows() {
		for _, rate := range []int{1, 2, 1000, 1 << 17, 349526, 1 << 20, maxRate} {
			got, e := Delay(l, api.Serve{Rate: rate, Latency: i})
			if e == api.ErrRate {
				continue
			}
			d := distance(l, rate)
			valid(t, got, e, i+up(d.Num(), d.Denom()))
		}
	}
}

// P4.5: no frame's latest departure is more than Delay after its arrival.
func TestDelayHolds(t *testing.T) {
	counted := 0
	eachPromised(t, func(p promised) {
		bound, e := Delay(p.buckets, p.s)
		if e == api.ErrRate {
			return
		}
		counted++
		out, wrong := Drain(p.arrivals, p.s)
		if e != api.OK || wrong != api.OK {
			t.Fatalf("%v: %d, %d", p, e, wrong)
		}
		for j, d := range out {
			if d-p.arrivals[j].At > bound {
				t.Errorf("%v: frame %d leaves at %d, but the bound is %d", p, j, d, bound)
			}
		}
	})
	if counted < 10000 {
		t.Errorf("only %d", counted)
	}
}

// P4.5: for one bucket Delay is the least bound: a frame of the whole Burst leaves no earlier.
func TestDelayIsLeast(t *testing.T) {
	for _, b := range buckets() {
		for _, s := range services() {
			bound, e := Delay([]api.Bucket{b}, s)
			if e == api.ErrRate {
				continue
			}
			l := trace(5000, b.Burst)
			if ok, wrong := bucket.Conforms(b, l); !ok || wrong != api.OK {
				t.Fatal(b, wrong)
			}
			out, wrong := Drain(l, s)
			if e != api.OK || wrong != api.OK || out[0]-5000 != bound {
				t.Errorf("%v, %v: delay %d, the frame leaves at %v", b, s, bound, out)
			}
		}
	}
}

// delayed sends the frames of l in order: the choices from next, below 3, are to delay a frame as little or as much as allowed, or by something in between.
func delayed(l []api.Arrival, most int, next func(below int) int) []api.Arrival {
	var sent []api.Arrival
	last := 0
	for _, a := range l {
		wait := 0
		switch next(3) {
		case 1:
			wait = most
		case 2:
			wait = next(most + 1)
		}
		last = max(last, a.At+wait)
		sent = append(sent, api.Arrival{At: last, Size: a.Size})
	}
	return sent
}

// P4.5: frames that leave in order, each at most Delay of one bucket after its arrival, conform to Output.
func TestOutputHolds(t *testing.T) {
	next := numbers(7)
	counted := 0
	eachPromised(t, func(p promised) {
		if len(p.buckets) > 1 {
			return
		}
		b := p.buckets[0]
		out, e := Output(b, p.s)
		if e == api.ErrRate || e == api.ErrBig {
			return
		}
		counted++
		bound, _ := Delay(p.buckets, p.s)
		for range 8 {
			sent := delayed(p.arrivals, bound, next)
			if ok, wrong := bucket.Conforms(out, sent); !ok || e != api.OK || wrong != api.OK {
				t.Errorf("%v: sent as %v, which does not conform to %v", p, sent, out)
			}
		}
		all, _ := Drain(p.arrivals, p.s)
		sent := slices.Clone(p.arrivals)
		for j := range sent {
			sent[j].At = all[j]
		}
		if ok, wrong := bucket.Conforms(out, sent); !ok || wrong != api.OK {
			t.Errorf("%v: sent as %v, which does not conform to %v", p, sent, out)
		}
	})
	if counted < 1000 {
		t.Errorf("only %d", counted)
	}
}

// P4.5: at most Backlog octets are waiting.
func TestBacklogHolds(t *testing.T) {
	counted := 0
	eachPromised(t, func(p promised) {
		if len(p.buckets) > 1 {
			return
		}
		bound, e := Backlog(p.buckets[0], p.s)
		if e == api.ErrRate {
			return
		}
		counted++
		for i := range p.arrivals {
			octets := 0
			for j := i; j < len(p.arrivals); j++ {
				octets += p.arrivals[j].Size
				checkWaiting(t, p, i, j, octets, bound)
			}
		}
	})
	if counted < 1000 {
		t.Errorf("only %d", counted)
	}
}

// checkWaiting checks how much of the octets from i to j is not sent yet, from the last arrival on, by a service that was busy since the first one.
func checkWaiting(t *testing.T, p promised, i, j, octets, bound int) {
	t.Helper()
	for later := range 5 {
		past := p.arrivals[j].At + later - p.arrivals[i].At
		// In units of 1 / Unit octet; below 2^50.
		sent := max(0, p.s.Rate*(past-p.s.Latency))
		if octets*api.Unit-sent > bound*api.Unit {
			t.Errorf("%v: of frames %d to %d more than %d octets wait %d ticks later", p, i, j, bound, later)
		}
	}
}
