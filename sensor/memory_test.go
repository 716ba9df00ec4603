package sensor_test

import (
	"math"
	"math/rand"
	"slices"
	"testing"

	"isobath/api"
	"isobath/sensor"
)

// R5: no argument is changed, also where it is a part of a longer list.
func TestArgumentsAreKept(t *testing.T) {
	r := rand.New(rand.NewSource(17))
	for range 500 {
		s, l := someSensor(r, 6), someSamples(r, 6)
		c, d := []int{4, 3, 1, 2}, []int{1, 4, 9, 9}
		s.Events = append(s.Events, check(latest, 9, 9), check(latest-3, 9, 9))
		events := s.Events
		s.Events = events[:len(events)-2]
		sameEvents, sameL, sameC, sameD := slices.Clone(events), keptSamples(l), slices.Clone(c), slices.Clone(d)
		sensor.Check(s)
		sensor.CheckSamples(l)
		sensor.CheckChain(c)
		sensor.Counting(s, 70)
		sensor.Offset(s, 70)
		sensor.Constraints(s, l, c, 0)
		for k := range 4 {
			sensor.Process(s, l, c[:k])
		}
		sensor.Above(s, l, c, 100)
		sensor.Changed(s, l, c[:3], d[:2])
		sensor.Contradict(s, l, c)
		if !slices.Equal(events, sameEvents) || !slices.EqualFunc(l, sameL, equalSample) || !slices.Equal(c, sameC) || !slices.Equal(d, sameD) {
			t.Fatal(events, l, c, d)
		}
	}
}

// R5 and R10: results share no memory with arguments, or with other results;
// equal calls return equal results, whatever was called between them.
func TestResultsAreNew(t *testing.T) {
	s, l, c := example(), exampleSamples(), []int{1, 2, 3, 4}
	wantValues, wantBounds := valuesOf(s, l, c), constraintsOf(s, l, c, 1)
	for range 3 {
		values, _ := sensor.Process(s, l, c)
		bounds, _ := sensor.Constraints(s, l, c, 1)
		count, _ := sensor.Counting(s, 4320)
		answers, _ := sensor.Above(s, l, c, 500)
		changed, _ := sensor.Changed(s, l, c, nil)
		v, e := sensor.Process(s, l, c)
		clear(values)
		equal(t, "Process", v, e, wantValues, api.OK)
		b, e := sensor.Constraints(s, l, c, 1)
		clear(bounds)
		equal(t, "Constraints", b, e, wantBounds, api.OK)
		n, e := sensor.Counting(s, 4320)
		clear(count)
		equal(t, "Counting", n, e, []int{1, 2}, api.OK)
		a, e := sensor.Above(s, l, c, 500)
		clear(answers)
		equal(t, "Above", a, e, []api.Answer{api.Open, api.No}, api.OK)
		d, e := sensor.Changed(s, l, c, nil)
		clear(changed)
		equal(t, "Changed", d, e, []int{0, 1}, api.OK)
	}
	if !equalSensor(s, example()) || !slices.EqualFunc(l, exampleSamples(), equalSample) || !slices.Equal(c, []int{1, 2, 3, 4}) {
		t.Fatal(s, l, c)
	}
}

// R5 and R10: nothing is kept of lists that are changed after a call.
func TestNothingIsKept(t *testing.T) {
	r := rand.New(rand.NewSource(18))
	s, l, c := api.Sensor{Events: make([]api.Event, 2)}, make([]api.Sample, 2), make([]int, 2)
	for range 1000 {
		s.Drift, s.Change = someRate(r), someRate(r)
		for i := range 2 {
			at := 1000 * int64(i)
			s.Events[i] = check(at, r.Int63n(9), 9+r.Int63n(9))
			l[i] = api.Sample{At: at, Raw: someSpan(r, 100, 20), Climate: someSpan(r, 100, 20)}
			c[i] = 1 + i*(1+r.Intn(3))
		}
		v, e := sensor.Process(s, l, c)
		equal(t, c, v, e, valuesOf(s, l, c), api.OK)
	}
}

// wild returns a number that may be anything.
func wild(r *rand.Rand) int64 {
	switch r.Intn(5) {
	case 0:
		return r.Int63n(9) - 4
	case 1:
		return int64(r.Uint64())
	case 2:
		l := append(wildNumbers(), 1<<30, 1<<30+1, -1<<30, -1<<30-1, 1<<20, 1<<20+1)
		return l[r.Intn(len(l))]
	}
	return amount(r, latest)
}

// wildArguments returns arguments that may have any numbers.
func wildArguments(r *rand.Rand) arguments {
	s, l := someSensor(r, 5), someSamples(r, 5)
	a := arguments{s: s, l: l, c: someChain(r), d: someChain(r), t: wild(r), limit: wild(r), i: int(wild(r))}
	for range r.Intn(3) {
		numbers := []*int64{&a.s.Drift, &a.s.Change}
		if len(s.Events) > 0 {
			e := &s.Events[r.Intn(len(s.Events))]
			numbers = append(numbers, &e.At, &e.Offset.Lo, &e.Offset.Hi)
		}
		if len(l) > 0 {
			x := &l[r.Intn(len(l))]
			numbers = append(numbers, &x.At, &x.Raw.Lo, &x.Raw.Hi, &x.Climate.Lo, &x.Climate.Hi)
		}
		*numbers[r.Intn(len(numbers))] = wild(r)
	}
	if r.Intn(5) == 0 {
		a.c = append(a.c, int(wild(r)))
	}
	if r.Intn(9) == 0 && len(s.Events) > 0 {
		s.Events[0].Kind = []int{0, 3, math.MinInt}[r.Intn(3)]
	}
	return a
}

// P1 and R2: every function ends for any numbers, and with an error all other
// results are zero values.
func TestAnyNumbers(t *testing.T) {
	r := rand.New(rand.NewSource(19))
	for range 20000 {
		a := wildArguments(r)
		for _, f := range calls() {
			if zero, e := f.do(a); e != api.OK && !zero || e < api.OK || e > api.ErrSum {
				t.Fatal(f.name, a, e)
			}
		}
		if e := sensor.Check(a.s); (e == api.OK) != validSensor(a.s) {
			t.Fatal(a.s, e)
		}
		if e := sensor.CheckSamples(a.l); (e == api.OK) != validSamples(a.l) {
			t.Fatal(a.l, e)
		}
	}
}

// validSpan tells whether a span is valid by the definition.
func validSpan(a api.Span) bool { return -most <= a.Lo && a.Lo <= a.Hi && a.Hi <= most }

// validSensor tells whether a sensor of few events is valid by the definition.
func validSensor(s api.Sensor) bool {
	for i, e := range s.Events {
		if e.Kind != 1 && e.Kind != 2 || e.At < 0 || e.At > latest || !validSpan(e.Offset) {
			return false
		}
		for _, f := range s.Events[:i] {
			if e.At == f.At {
				return false
			}
		}
	}
	return s.Drift >= 0 && s.Drift <= 1<<20 && s.Change >= 0 && s.Change <= 1<<20
}

// validSamples tells whether few samples are valid by the definition.
func validSamples(l []api.Sample) bool {
	for i, x := range l {
		if x.At < 0 || x.At > latest || !validSpan(x.Raw) || !validSpan(x.Climate) || i > 0 && x.At <= l[i-1].At {
			return false
		}
	}
	return true
}
