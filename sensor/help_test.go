package sensor_test

import (
	"math"
	"math/big"
	"math/rand"
	"slices"
	"testing"

	"isobath/api"
)

const (
	most   = api.MaxValue
	latest = api.MaxTime
)

func span(lo, hi int64) api.Span { return api.Span{Lo: lo, Hi: hi} }

// contains tells whether all numbers of b are in a.
func contains(a, b api.Span) bool { return a.Lo <= b.Lo && b.Hi <= a.Hi }

func check(at, lo, hi int64) api.Event {
	return api.Event{Kind: api.EventCheck, At: at, Offset: span(lo, hi)}
}

func clean(at, lo, hi int64) api.Event {
	return api.Event{Kind: api.EventClean, At: at, Offset: span(lo, hi)}
}

// example returns the sensor of the chapter's examples.
func example() api.Sensor {
	return api.Sensor{Events: []api.Event{check(0, 0, 10), clean(2880, -5, 5), check(7200, 20, 30)}, Drift: 20, Change: 100}
}

// exampleSamples returns the samples of the chapter's examples.
func exampleSamples() []api.Sample {
	return []api.Sample{
		{At: 1440, Raw: span(500, 510), Climate: span(400, 600)},
		{At: 4320, Raw: span(520, 530), Climate: span(0, 505), Near: []api.Span{span(480, 500)}},
	}
}

// exact returns a sensor whose offset is always 0.
func exact(change int64) api.Sensor {
	return api.Sensor{Events: []api.Event{check(0, 0, 0)}, Change: change}
}

// sample returns a sample without neighbours whose climatology allows much.
func sample(at, lo, hi int64) api.Sample {
	return api.Sample{At: at, Raw: span(lo, hi), Climate: span(-1000, 1000)}
}

// by returns a cause.
func by(step, of int) api.Cause { return api.Cause{Step: step, Of: of} }

// value returns a value with a set.
func value(lo, hi int64, l, h api.Cause) api.Value {
	return api.Value{Set: span(lo, hi), Lo: l, Hi: h}
}

// empty returns a value of which two constraints exclude each other.
func empty(l, h api.Cause) api.Value { return api.Value{Lo: l, Hi: h, Empty: true} }

// keptSensor returns a copy of a sensor that shares no memory with it.
func keptSensor(s api.Sensor) api.Sensor {
	s.Events = slices.Clone(s.Events)
	return s
}

// keptSamples returns a copy of samples that shares no memory with them.
func keptSamples(l []api.Sample) []api.Sample {
	var copies []api.Sample
	for _, x := range l {
		x.Near = slices.Clone(x.Near)
		copies = append(copies, x)
	}
	return copies
}

func equalSensor(a, b api.Sensor) bool {
	return a.Drift == b.Drift && a.Change == b.Change && slices.Equal(a.Events, b.Events)
}

func equalSample(a, b api.Sample) bool {
	return a.At == b.At && a.Raw == b.Raw && a.Climate == b.Climate && slices.Equal(a.Near, b.Near)
}

// wildNumbers returns numbers far beyond all limits.
func wildNumbers() []int64 {
	return []int64{math.MinInt64, math.MinInt64 + 1, -1 << 62, -1 << 31, 1 << 31, 1 << 62, math.MaxInt64 - 1, math.MaxInt64}
}

// badSpans returns spans that are not valid.
func badSpans() []api.Span {
	return []api.Span{
		span(1, 0), span(most, most-1), span(-most-1, 0), span(0, most+1), span(-most-1, -most-1), span(most+1, most+1),
		span(math.MinInt64, math.MaxInt64), span(math.MaxInt64, math.MinInt64), span(math.MinInt64, math.MinInt64),
	}
}

// goodSpans returns valid spans at the limits.
func goodSpans() []api.Span {
	return []api.Span{{}, span(-most, most), span(most, most), span(-most, -most), span(-1, 0), span(7, 7)}
}

// The chapter's definitions, as they are written.

// reachOf returns the reach of a rate for a distance.
func reachOf(rate, n int64) int64 {
	return ceiling(new(big.Rat).Mul(big.NewRat(rate, 1440), big.NewRat(n, 1)))
}

// floor rounds down: the quotient of big.Int's Div is, for a divisor above 0.
func floor(x *big.Rat) int64 { return new(big.Int).Div(x.Num(), x.Denom()).Int64() }

// ceiling rounds up.
func ceiling(x *big.Rat) int64 { return -floor(new(big.Rat).Neg(x)) }

// apart returns the distance of two times.
func apart(t, u int64) int64 { return max(t-u, u-t) }

// countingOf returns the indexes of the events that count for a time.
func countingOf(s api.Sensor, t int64) []int {
	c, d := -1, -1
	for i, e := range s.Events {
		if e.Kind != api.EventClean {
			continue
		}
		if e.At <= t && (c < 0 || e.At > s.Events[c].At) {
			c = i
		}
		if e.At > t && (d < 0 || e.At < s.Events[d].At) {
			d = i
		}
	}
	var l []int
	for i, e := range s.Events {
		if (c < 0 || e.At >= s.Events[c].At) && (d < 0 || e.At < s.Events[d].At) {
			l = append(l, i)
		}
	}
	return l
}

// offsetOf returns the offset at a time, and the error of Offset.
func offsetOf(s api.Sensor, t int64) (api.Span, api.Errno) {
	var los, his []int64
	for _, i := range countingOf(s, t) {
		e := s.Events[i]
		w := reachOf(s.Drift, apart(t, e.At))
		los, his = append(los, e.Offset.Lo-w), append(his, e.Offset.Hi+w)
	}
	if len(los) == 0 {
		return api.Span{}, api.ErrNone
	}
	if slices.Max(los) > slices.Min(his) {
		return api.Span{}, api.ErrSum
	}
	return span(slices.Max(los), slices.Min(his)), api.OK
}

// constraintsOf returns the constraints of a sample by a chain.
func constraintsOf(s api.Sensor, l []api.Sample, chain []int, i int) []api.Bounded {
	var all []api.Bounded
	for k, step := range chain {
		switch step {
		case 1:
			if o, e := offsetOf(s, l[i].At); e == api.OK {
				all = append(all, api.Bounded{By: by(1, 0), Set: span(l[i].Raw.Lo-o.Hi, l[i].Raw.Hi-o.Lo)})
			}
		case 2:
			all = append(all, api.Bounded{By: by(2, 0), Set: l[i].Climate})
		case 3:
			for n, a := range l[i].Near {
				all = append(all, api.Bounded{By: by(3, n), Set: a})
			}
		case 4:
			rest := slices.Concat(chain[:k], chain[k+1:])
			for j := range l {
				v := valueOf(constraintsOf(s, l, rest, j))
				if j != i && !v.Empty && v.Lo.Step != 0 {
					w := reachOf(s.Change, apart(l[i].At, l[j].At))
					all = append(all, api.Bounded{By: by(4, j), Set: span(v.Set.Lo-w, v.Set.Hi+w)})
				}
			}
		}
	}
	return all
}

// valueOf returns the value by some constraints.
func valueOf(all []api.Bounded) api.Value {
	if len(all) == 0 {
		return api.Value{}
	}
	var los, his []int64
	for _, b := range all {
		los, his = append(los, b.Set.Lo), append(his, b.Set.Hi)
	}
	lo, hi := slices.Max(los), slices.Min(his)
	v := value(lo, hi, all[slices.Index(los, lo)].By, all[slices.Index(his, hi)].By)
	if lo > hi {
		v.Set, v.Empty = api.Span{}, true
	}
	return v
}

// valuesOf returns the values of all samples by a chain.
func valuesOf(s api.Sensor, l []api.Sample, chain []int) []api.Value {
	var all []api.Value
	for i := range l {
		all = append(all, valueOf(constraintsOf(s, l, chain, i)))
	}
	return all
}

// anyEmpty tells whether a value is empty.
func anyEmpty(l []api.Value) bool {
	return slices.ContainsFunc(l, func(v api.Value) bool { return v.Empty })
}

// chains returns all chains.
func chains() [][]int {
	all, last := [][]int{nil}, [][]int{nil}
	for len(last) > 0 {
		var next [][]int
		for _, c := range last {
			for step := 1; step <= 4; step++ {
				if !slices.Contains(c, step) {
					next = append(next, append(slices.Clone(c), step))
				}
			}
		}
		all, last = append(all, next...), next
	}
	return all
}

// Random sensors and samples.

// amount returns a number from 0 to most, often at an end or small.
func amount(r *rand.Rand, most int64) int64 {
	switch r.Intn(6) {
	case 0:
		return 0
	case 1:
		return most
	case 2:
		return r.Int63n(min(most, 20) + 1)
	}
	return r.Int63n(most + 1)
}

// someTimes returns up to n different times, in any order: near each other, or
// anywhere.
func someTimes(r *rand.Rand, n int) []int64 {
	last := []int64{50, 20000, latest}[r.Intn(3)]
	var l []int64
	for range r.Intn(n + 1) {
		if t := amount(r, last); !slices.Contains(l, t) {
			l = append(l, t)
		}
	}
	return l
}

// someSpan returns a span around a number.
func someSpan(r *rand.Rand, x, wide int64) api.Span {
	return span(x-r.Int63n(wide+1), x+r.Int63n(wide+1))
}

// someRate returns a rate.
func someRate(r *rand.Rand) int64 {
	return amount(r, []int64{0, 30, 3000, api.MaxRate}[r.Intn(4)])
}

// someSensor returns a valid sensor of up to n events, whose offset may be
// empty.
func someSensor(r *rand.Rand, n int) api.Sensor {
	s := api.Sensor{Drift: someRate(r), Change: someRate(r)}
	wide := []int64{5, 30}[r.Intn(2)]
	for _, t := range someTimes(r, n) {
		e := api.Event{Kind: api.EventCheck, At: t, Offset: someSpan(r, r.Int63n(15), wide)}
		if r.Intn(3) == 0 {
			e.Kind = api.EventClean
		}
		s.Events = append(s.Events, e)
	}
	return s
}

// someSamples returns up to n valid samples.
func someSamples(r *rand.Rand, n int) []api.Sample {
	times := someTimes(r, n)
	slices.Sort(times)
	wide := []int64{12, 50}[r.Intn(2)]
	var l []api.Sample
	for _, t := range times {
		x := api.Sample{At: t, Raw: someSpan(r, 100+r.Int63n(20), 30), Climate: someSpan(r, 90+r.Int63n(20), wide)}
		for range r.Intn(4) {
			x.Near = append(x.Near, someSpan(r, 90+r.Int63n(20), wide))
		}
		l = append(l, x)
	}
	return l
}

// someChain returns a chain.
func someChain(r *rand.Rand) []int {
	l := r.Perm(4)
	for k := range l {
		l[k]++
	}
	return l[:r.Intn(5)]
}

// someMoment returns a time: anywhere, or near an event.
func someMoment(r *rand.Rand, s api.Sensor) int64 {
	if len(s.Events) == 0 || r.Intn(3) == 0 {
		return amount(r, latest)
	}
	e := s.Events[r.Intn(len(s.Events))]
	return min(max(0, e.At+r.Int63n(3)-1), latest)
}

// equal compares a list that a function returns, and its error, with those that
// are wanted.
func equal[T comparable](t *testing.T, name any, got []T, e api.Errno, want []T, wantErr api.Errno) {
	t.Helper()
	if !slices.Equal(got, want) || e != wantErr {
		t.Fatalf("%v: %v, %v; want %v, %v", name, got, e, want, wantErr)
	}
}
