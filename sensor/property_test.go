package sensor_test

import (
	"math/big"
	"math/rand"
	"slices"
	"testing"

	"isobath/api"
	"isobath/sensor"
)

// wave is what an offset or a value truly is: from a base it rises and falls, or
// falls and rises, with the greatest slope that its rate allows or a lesser one.
type wave struct {
	base, slope *big.Rat
	half        int64
}

// someWave returns a wave for a rate.
func someWave(r *rand.Rand, rate, base int64) wave {
	slope := big.NewRat(rate, 1440)
	slope.Mul(slope, big.NewRat(r.Int63n(5)-2, 2))
	return wave{big.NewRat(base, 1+r.Int63n(9)), slope, []int64{5, 1000, 100003, 1 << 25}[r.Intn(4)]}
}

// at returns what a wave is at a time.
func (w wave) at(t int64) *big.Rat {
	x := t % (2 * w.half)
	x = min(x, 2*w.half-x)
	y := new(big.Rat).Mul(w.slope, big.NewRat(x, 1))
	return y.Add(y, w.base)
}

// world is a sensor and samples of which all is true, with what is true: its
// offsets, from the first event on and then from each cleaning on, and its value.
type world struct {
	sensor  api.Sensor
	samples []api.Sample
	offsets []wave
	value   wave
}

// offset returns the true offset at a time.
func (w world) offset(t int64) *big.Rat {
	k := 0
	for _, e := range w.sensor.Events {
		if e.Kind == api.EventClean && e.At <= t {
			k++
		}
	}
	return w.offsets[k].at(t)
}

// reading returns the true reading at a time.
func (w world) reading(t int64) *big.Rat { return new(big.Rat).Add(w.value.at(t), w.offset(t)) }

// around returns a span that contains a number.
func around(r *rand.Rand, x *big.Rat, wide int64) api.Span {
	return span(floor(x)-amount(r, wide), ceiling(x)+amount(r, wide))
}

// someWorld returns a world with up to n events and up to m samples, which have
// up to k neighbours.
func someWorld(r *rand.Rand, n, m, k int) world {
	w := world{sensor: api.Sensor{Drift: amount(r, 5000), Change: amount(r, 5000)}}
	w.value = someWave(r, w.sensor.Change, r.Int63n(20001)-10000)
	w.offsets = append(w.offsets, someWave(r, w.sensor.Drift, r.Int63n(2001)-1000))
	for _, t := range someTimes(r, n) {
		e := check(t, 0, 0)
		if r.Intn(3) == 0 {
			e.Kind = api.EventClean
			w.offsets = append(w.offsets, someWave(r, w.sensor.Drift, r.Int63n(2001)-1000))
		}
		w.sensor.Events = append(w.sensor.Events, e)
	}
	for i, e := range w.sensor.Events {
		w.sensor.Events[i].Offset = around(r, w.offset(e.At), 40)
	}
	times := someTimes(r, m)
	slices.Sort(times)
	for _, t := range times {
		x := api.Sample{At: t, Raw: around(r, w.reading(t), 40), Climate: around(r, w.value.at(t), 200)}
		for range r.Intn(k + 1) {
			x.Near = append(x.Near, around(r, w.value.at(t), 150))
		}
		w.samples = append(w.samples, x)
	}
	return w
}

// inside tells whether a number is in a span.
func inside(a api.Span, x *big.Rat) bool {
	return x.Cmp(big.NewRat(a.Lo, 1)) >= 0 && x.Cmp(big.NewRat(a.Hi, 1)) <= 0
}

// valid tells whether the errors of a sensor and of samples are OK.
func valid(s api.Sensor, l []api.Sample) bool {
	return sensor.Check(s) == api.OK && sensor.CheckSamples(l) == api.OK
}

// P6.7, G1 and G6: the true offset is where Offset says at each time.
func TestOffsetIsEnclosed(t *testing.T) {
	r := rand.New(rand.NewSource(7))
	many := map[api.Errno]int{}
	for range 2500 {
		w := someWorld(r, 7, 0, 0)
		for range 5 {
			at := someMoment(r, w.sensor)
			o, e := sensor.Offset(w.sensor, at)
			many[e]++
			if e == api.ErrNone {
				continue
			}
			if e != api.OK || !inside(o, w.offset(at)) {
				t.Fatal(w, at, o, e, w.offset(at))
			}
		}
	}
	if many[api.OK] < 3000 {
		t.Error(many)
	}
}

// P6.7, G1 and G6: each true value is in its set, by any chain.
func TestValueIsEnclosed(t *testing.T) {
	r := rand.New(rand.NewSource(8))
	sets := 0
	for range 400 {
		w := someWorld(r, 5, 5, 3)
		for _, c := range chains() {
			v, e := sensor.Process(w.sensor, w.samples, c)
			if e != api.OK || len(v) != len(w.samples) || anyEmpty(v) {
				t.Fatal(w, c, v, e)
			}
			if _, _, _, e := sensor.Contradict(w.sensor, w.samples, c); e != api.ErrNone {
				t.Fatal(w, c, e)
			}
			for i, x := range w.samples {
				if (v[i] == api.Value{}) {
					continue
				}
				sets++
				if !inside(v[i].Set, w.value.at(x.At)) {
					t.Fatal(w, c, i, v[i], w.value.at(x.At))
				}
			}
		}
	}
	if sets < 10000 {
		t.Error(sets)
	}
}

// P6.4 and P6.7: an answer of Above is true of the true value.
func TestAboveIsTrue(t *testing.T) {
	r := rand.New(rand.NewSource(9))
	many := map[api.Answer]int{}
	for range 2500 {
		w := someWorld(r, 5, 5, 3)
		limit := floor(w.value.base) + r.Int63n(101) - 50
		l, e := sensor.Above(w.sensor, w.samples, someChain(r), limit)
		if e != api.OK || len(l) != len(w.samples) {
			t.Fatal(w, l, e)
		}
		for i, x := range w.samples {
			many[l[i]]++
			greater := w.value.at(x.At).Cmp(big.NewRat(limit, 1)) > 0
			if l[i] == api.Yes && !greater || l[i] == api.No && greater {
				t.Fatal(w, limit, i, l[i])
			}
		}
	}
	if many[api.Yes] < 100 || many[api.No] < 100 || many[api.Open] < 100 {
		t.Error(many)
	}
}

// P6.8: a check more never makes an offset wider.
func TestMoreChecks(t *testing.T) {
	r := rand.New(rand.NewSource(10))
	narrower := 0
	for range 4000 {
		s := someSensor(r, 7)
		more := keptSensor(s)
		more.Events = append(more.Events, check(amount(r, 20000), 0, 40))
		if sensor.Check(more) != api.OK {
			continue
		}
		for range 4 {
			at := someMoment(r, more)
			a, e := sensor.Offset(s, at)
			b, f := sensor.Offset(more, at)
			switch {
			case e == api.ErrSum && f == api.ErrSum, e == api.ErrNone && f != api.ErrSum, e == api.OK && f == api.ErrSum:
			case e == api.OK && f == api.OK && contains(a, b):
				if a != b {
					narrower++
				}
			default:
				t.Fatal(more, at, a, e, b, f)
			}
		}
	}
	if narrower < 100 {
		t.Error(narrower)
	}
}

// notWider tells whether the set of a value contains that of another one.
func notWider(v, w api.Value) bool {
	switch {
	case v == api.Value{} || w.Empty:
		return true
	case w == api.Value{} || v.Empty:
		return false
	}
	return contains(v.Set, w.Set)
}

// P6.8: a step more in a chain never makes a set wider, as long as no set by the
// longer chain without StepRate is empty.
func TestMoreSteps(t *testing.T) {
	r := rand.New(rand.NewSource(11))
	empty, compared := 0, 0
	for range 600 {
		s, l := someSensor(r, 5), someSamples(r, 5)
		for _, longer := range chains() {
			alone := slices.DeleteFunc(slices.Clone(longer), func(step int) bool { return step == 4 })
			base, _ := sensor.Process(s, l, alone)
			if anyEmpty(base) {
				empty++
				continue
			}
			w, e := sensor.Process(s, l, longer)
			for k := range longer {
				v, f := sensor.Process(s, l, slices.Concat(longer[:k], longer[k+1:]))
				if e != api.OK || f != api.OK || len(v) != len(l) || len(w) != len(l) {
					t.Fatal(v, w, e, f)
				}
				for i := range l {
					compared++
					if !notWider(v[i], w[i]) {
						t.Fatal(s, l, longer, k, v[i], w[i])
					}
				}
			}
		}
	}
	if empty < 1000 || compared < 10000 {
		t.Error(empty, compared)
	}
}

// P6.8: the order of the events and that of the steps change no set, and the
// order of the steps does not change which sets are empty.
func TestAnyOrder(t *testing.T) {
	r := rand.New(rand.NewSource(12))
	for range 3000 {
		s, l, c := someSensor(r, 7), someSamples(r, 6), someChain(r)
		turned, d := keptSensor(s), slices.Clone(c)
		r.Shuffle(len(d), func(i, k int) { d[i], d[k] = d[k], d[i] })
		r.Shuffle(len(turned.Events), func(i, k int) {
			turned.Events[i], turned.Events[k] = turned.Events[k], turned.Events[i]
		})
		at := someMoment(r, s)
		a, e := sensor.Offset(s, at)
		b, f := sensor.Offset(turned, at)
		if a != b || e != f {
			t.Fatal(s, turned, a, e, b, f)
		}
		v, e := sensor.Process(s, l, c)
		w, f := sensor.Process(turned, l, c)
		equal(t, c, w, f, v, e)
		w, f = sensor.Process(turned, l, d)
		if e != api.OK || f != api.OK || len(v) != len(w) {
			t.Fatal(v, w, e, f)
		}
		for i := range v {
			if v[i].Set != w[i].Set || v[i].Empty != w[i].Empty {
				t.Fatal(s, l, c, d, i, v[i], w[i])
			}
		}
		changed, e := sensor.Changed(s, l, c, d)
		equal(t, d, changed, e, nil, api.OK)
	}
}

// constraint returns the one with a cause.
func constraint(t *testing.T, l []api.Bounded, c api.Cause) api.Span {
	t.Helper()
	i := slices.IndexFunc(l, func(b api.Bounded) bool { return b.By == c })
	if i < 0 {
		t.Fatal("no constraint", c, l)
	}
	return l[i].Set
}

// P6.9 and G6: the ends of a set are those of the constraints that are their
// causes, and all constraints contain it; of an empty one the two constraints
// have no common number.
func TestTwoAreEnough(t *testing.T) {
	r := rand.New(rand.NewSource(13))
	for range 3000 {
		s, l, c := someSensor(r, 6), someSamples(r, 6), someChain(r)
		values, e := sensor.Process(s, l, c)
		if e != api.OK || len(values) != len(l) {
			t.Fatal(values, e)
		}
		for i, v := range values {
			all, e := sensor.Constraints(s, l, c, i)
			if e != api.OK || (len(all) == 0) != (v == api.Value{}) {
				t.Fatal(all, v, e)
			}
			if len(all) == 0 {
				continue
			}
			lo, hi := constraint(t, all, v.Lo), constraint(t, all, v.Hi)
			if v.Empty != (lo.Lo > hi.Hi) || !v.Empty && v.Set != span(lo.Lo, hi.Hi) {
				t.Fatal(all, v)
			}
			for _, b := range all {
				if !v.Empty && !contains(b.Set, v.Set) {
					t.Fatal(b, v)
				}
			}
		}
		if i, lo, hi, e := sensor.Contradict(s, l, c); e == api.OK {
			all, _ := sensor.Constraints(s, l, c, i)
			if constraint(t, all, lo).Lo <= constraint(t, all, hi).Hi {
				t.Fatal(all, lo, hi)
			}
		}
	}
}

// taught returns samples with the sets of all other samples as further
// neighbours.
func taught(s api.Sensor, l []api.Sample, v []api.Value) []api.Sample {
	all := keptSamples(l)
	for i := range all {
		for j := range l {
			if w := reachOf(s.Change, apart(l[i].At, l[j].At)); i != j && (v[j] != api.Value{}) {
				all[i].Near = append(all[i].Near, span(v[j].Set.Lo-w, v[j].Set.Hi+w))
			}
		}
	}
	return all
}

// P6.10: what the sets by a chain tell of all other samples changes no set.
func TestSettled(t *testing.T) {
	r := rand.New(rand.NewSource(14))
	sets := 0
	for range 2500 {
		w := someWorld(r, 5, 5, 4)
		for _, c := range [][]int{{3, 4}, {1, 3, 4}, {4, 3, 2}, {2, 4, 1, 3}} {
			v, e := sensor.Process(w.sensor, w.samples, c)
			if e != api.OK {
				t.Fatal(e)
			}
			more := taught(w.sensor, w.samples, v)
			if !valid(w.sensor, more) {
				continue // a set that is widened is beyond MaxValue
			}
			again, e := sensor.Process(w.sensor, more, c)
			if e != api.OK || len(again) != len(v) {
				t.Fatal(again, e)
			}
			for i := range v {
				sets++
				if v[i].Set != again[i].Set || again[i].Empty {
					t.Fatal(w, c, i, v[i], again[i])
				}
			}
		}
	}
	if sets < 10000 {
		t.Error(sets)
	}
}

// replaced returns a sensor with other events where old says so.
func replaced(r *rand.Rand, s api.Sensor, old func(at int64) bool) api.Sensor {
	s.Events = slices.DeleteFunc(slices.Clone(s.Events), func(e api.Event) bool { return old(e.At) })
	for _, e := range someSensor(r, 4).Events {
		if old(e.At) {
			s.Events = append(s.Events, e)
		}
	}
	r.Shuffle(len(s.Events), func(i, k int) { s.Events[i], s.Events[k] = s.Events[k], s.Events[i] })
	return s
}

// P6.11: other events before a cleaning change no offset from then on, and later
// ones change none before it.
func TestCleaning(t *testing.T) {
	r := rand.New(rand.NewSource(15))
	compared := 0
	for range 3000 {
		s := someSensor(r, 6)
		cleanings := slices.DeleteFunc(slices.Clone(s.Events), func(e api.Event) bool { return e.Kind == api.EventCheck })
		if len(cleanings) == 0 {
			continue
		}
		then := cleanings[r.Intn(len(cleanings))].At
		early := replaced(r, s, func(at int64) bool { return at < then })
		late := replaced(r, s, func(at int64) bool { return at > then })
		if sensor.Check(early) != api.OK || sensor.Check(late) != api.OK {
			t.Fatal(early, late)
		}
		for _, at := range []int64{then, min(then+1, latest), min(then+amount(r, 20000), latest), max(0, then-1), max(0, then-amount(r, 20000))} {
			compared++
			other := early
			if at < then {
				other = late
			}
			a, e := sensor.Offset(s, at)
			b, f := sensor.Offset(other, at)
			if a != b || e != f {
				t.Fatal(s, other, then, at, a, e, b, f)
			}
		}
	}
	if compared < 3000 {
		t.Error(compared)
	}
}

// wider returns a span that contains another one.
func wider(r *rand.Rand, a api.Span) api.Span {
	if r.Intn(2) == 0 {
		return a
	}
	return span(a.Lo-amount(r, 30), a.Hi+amount(r, 30))
}

// loosened returns a sensor and samples with wider bounds, and greater rates.
func loosened(r *rand.Rand, s api.Sensor, l []api.Sample) (api.Sensor, []api.Sample) {
	s, l = keptSensor(s), keptSamples(l)
	if r.Intn(2) == 0 {
		s.Drift, s.Change = s.Drift+amount(r, 100), s.Change+amount(r, 100)
	}
	for i := range s.Events {
		s.Events[i].Offset = wider(r, s.Events[i].Offset)
	}
	for i := range l {
		l[i].Raw, l[i].Climate = wider(r, l[i].Raw), wider(r, l[i].Climate)
		for k := range l[i].Near {
			l[i].Near[k] = wider(r, l[i].Near[k])
		}
	}
	return s, l
}

// G1: narrower bounds of what is true never give wider results.
func TestNarrowerBounds(t *testing.T) {
	r := rand.New(rand.NewSource(16))
	for range 2500 {
		w := someWorld(r, 5, 5, 3)
		s, l := loosened(r, w.sensor, w.samples)
		for range 4 {
			at := someMoment(r, s)
			a, e := sensor.Offset(s, at)
			b, f := sensor.Offset(w.sensor, at)
			if e != f || !contains(a, b) {
				t.Fatal(w, s, at, a, e, b, f)
			}
			c := someChain(r)
			v, e := sensor.Process(s, l, c)
			u, f := sensor.Process(w.sensor, w.samples, c)
			if e != api.OK || f != api.OK || len(v) != len(u) {
				t.Fatal(v, u, e, f)
			}
			for i := range v {
				if (v[i] == api.Value{}) != (u[i] == api.Value{}) || !notWider(v[i], u[i]) {
					t.Fatal(w, s, l, c, i, v[i], u[i])
				}
			}
		}
	}
}
