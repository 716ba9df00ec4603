package sensor_test

import (
	"math/rand"
	"slices"
	"testing"

	"isobath/api"
	"isobath/sensor"
)

// P6.3: the chapter's examples.
func TestExamplesOfProcess(t *testing.T) {
	raw, climate, near := by(1, 0), by(2, 0), by(3, 0)
	for _, x := range []struct {
		chain []int
		want  []api.Value
	}{
		{nil, []api.Value{{}, {}}},
		{[]int{1}, []api.Value{value(470, 530, raw, raw), value(495, 550, raw, raw)}},
		{[]int{2}, []api.Value{value(400, 600, climate, climate), value(0, 505, climate, climate)}},
		{[]int{3}, []api.Value{{}, value(480, 500, near, near)}},
		{[]int{1, 2}, []api.Value{value(470, 530, raw, raw), value(495, 505, raw, climate)}},
		{[]int{1, 2, 3}, []api.Value{value(470, 530, raw, raw), value(495, 500, raw, near)}},
		{[]int{1, 4}, []api.Value{value(470, 530, raw, raw), value(495, 550, raw, raw)}},
		{[]int{4}, []api.Value{{}, {}}},
		{[]int{4, 3}, []api.Value{value(280, 700, by(4, 1), by(4, 1)), value(480, 500, near, near)}},
	} {
		l, e := sensor.Process(example(), exampleSamples(), x.chain)
		equal(t, x.chain, l, e, x.want, api.OK)
	}
}

// P6.3: of several constraints with an equal end the first one is its cause.
func TestProcessCauses(t *testing.T) {
	l := []api.Sample{
		{At: 0, Raw: span(0, 20), Climate: span(0, 20), Near: []api.Span{span(-9, 99), span(0, 20), span(0, 20)}},
		{At: 1440, Raw: span(-5, 25), Climate: span(-6, 26)},
		{At: 1441, Raw: span(-5, 25), Climate: span(-5, 24)},
	}
	for _, x := range []struct {
		chain []int
		want  []api.Value
	}{
		{[]int{1, 2, 3}, []api.Value{value(0, 20, by(1, 0), by(1, 0)), value(-5, 25, by(1, 0), by(1, 0)), value(-5, 24, by(1, 0), by(2, 0))}},
		{[]int{3, 2, 1}, []api.Value{value(0, 20, by(3, 1), by(3, 1)), value(-5, 25, by(1, 0), by(1, 0)), value(-5, 24, by(2, 0), by(2, 0))}},
		{[]int{2, 1, 3}, []api.Value{value(0, 20, by(2, 0), by(2, 0)), value(-5, 25, by(1, 0), by(1, 0)), value(-5, 24, by(2, 0), by(2, 0))}},
		{[]int{1, 4}, []api.Value{value(0, 20, by(1, 0), by(1, 0)), value(-5, 25, by(1, 0), by(1, 0)), value(-5, 25, by(1, 0), by(1, 0))}},
		{[]int{4, 1, 2}, []api.Value{value(0, 20, by(1, 0), by(1, 0)), value(-5, 25, by(4, 0), by(4, 0)), value(-5, 24, by(1, 0), by(2, 0))}},
		{[]int{1, 2, 4}, []api.Value{value(0, 20, by(1, 0), by(1, 0)), value(-5, 25, by(1, 0), by(1, 0)), value(-5, 24, by(1, 0), by(2, 0))}},
	} {
		v, e := sensor.Process(exact(5), l, x.chain)
		equal(t, x.chain, v, e, x.want, api.OK)
	}
}

// P6.3: sets that are empty, that have one number, and that have all.
func TestProcessEmpty(t *testing.T) {
	l := []api.Sample{sample(0, 10, 20), sample(10, 10, 20), sample(20, 0, 0), sample(30, 10, 20)}
	l[0].Near = []api.Span{span(20, 30), span(0, 10)}
	l[1].Near = []api.Span{span(20, 30)}
	l[3].Near = []api.Span{span(21, 40), span(30, 50), span(0, 30)}
	v, e := sensor.Process(exact(0), l, []int{1, 3})
	equal(t, "1 3", v, e, []api.Value{
		empty(by(3, 0), by(3, 1)), value(20, 20, by(3, 0), by(1, 0)), value(0, 0, by(1, 0), by(1, 0)), empty(by(3, 1), by(1, 0)),
	}, api.OK)
	v, e = sensor.Process(exact(0), l, []int{3})
	equal(t, "3", v, e, []api.Value{
		empty(by(3, 0), by(3, 1)), value(20, 30, by(3, 0), by(3, 0)), {}, value(30, 30, by(3, 1), by(3, 2)),
	}, api.OK)
	// The sets of the second and of the third one are far from each other.
	v, e = sensor.Process(exact(0), l, []int{1, 3, 4})
	equal(t, "1 3 4", v, e, []api.Value{
		empty(by(3, 0), by(4, 2)), empty(by(3, 0), by(4, 2)), empty(by(4, 1), by(1, 0)), empty(by(3, 1), by(4, 2)),
	}, api.OK)
	v, e = sensor.Process(exact(0), nil, []int{1, 3, 4})
	equal(t, "no samples", v, e, nil, api.OK)
	v, e = sensor.Process(api.Sensor{}, l, []int{1, 4})
	equal(t, "no constraint", v, e, make([]api.Value, 4), api.OK)
}

// P6.3: a sample that is told nothing itself has a set by the others, which it
// does not tell to them.
func TestProcessRate(t *testing.T) {
	s := api.Sensor{Events: []api.Event{clean(1000, 0, 0)}, Change: 1440}
	l := []api.Sample{sample(990, 0, 0), sample(1000, 50, 60), sample(1010, 75, 80), sample(1100, 65, 70)}
	v, e := sensor.Process(s, l, []int{1, 4})
	equal(t, "1 4", v, e, []api.Value{
		value(55, 70, by(4, 2), by(4, 1)), empty(by(4, 2), by(1, 0)), empty(by(1, 0), by(4, 1)), value(65, 70, by(1, 0), by(1, 0)),
	}, api.OK)
	l[2].Raw.Lo = 70
	v, e = sensor.Process(s, l, []int{1, 4})
	equal(t, "1 4", v, e, []api.Value{
		value(50, 70, by(4, 2), by(4, 1)), value(60, 60, by(4, 2), by(1, 0)), value(70, 70, by(1, 0), by(4, 1)), value(65, 70, by(1, 0), by(1, 0)),
	}, api.OK)
}

// P6.3: Process agrees with the definitions.
func TestProcessIsDefined(t *testing.T) {
	r := rand.New(rand.NewSource(3))
	many := map[string]int{}
	for range 4000 {
		s, l, c := someSensor(r, 6), someSamples(r, 6), someChain(r)
		v, e := sensor.Process(s, l, c)
		equal(t, c, v, e, valuesOf(s, l, c), api.OK)
		for _, x := range v {
			switch {
			case x.Empty:
				many["empty"]++
			case x == api.Value{}:
				many["free"]++
			case x.Lo.Step == 4 || x.Hi.Step == 4:
				many["rate"]++
			default:
				many["set"]++
			}
		}
	}
	if many["empty"] < 500 || many["free"] < 500 || many["rate"] < 500 || many["set"] < 500 {
		t.Error(many)
	}
}

// P6.3: as many samples as there can be.
func TestProcessOfMany(t *testing.T) {
	for i := range 64 {
		l := row(64)
		l[i].Near = []api.Span{span(1, 1)}
		v, e := sensor.Process(exact(1), l, []int{1, 2, 3, 4})
		equal(t, i, v, e, valuesOf(exact(1), l, []int{1, 2, 3, 4}), api.OK)
	}
}

// P6.4: the chapter's example, and limits at and beside each end of a set.
func TestAbove(t *testing.T) {
	l, e := sensor.Above(example(), exampleSamples(), []int{1, 2, 3}, 500)
	equal(t, "the example", l, e, []api.Answer{api.Open, api.No}, api.OK)
	samples := []api.Sample{sample(0, -3, 4), sample(100, 0, 0), sample(200, -3, 4), sample(300, 7, 7)}
	samples[2].Near = []api.Span{span(9, 9)}
	for _, x := range []struct {
		chain []int
		limit int64
		want  []api.Answer
	}{
		{[]int{1}, -4, []api.Answer{api.Yes, api.Yes, api.Yes, api.Yes}},
		{[]int{1}, -3, []api.Answer{api.Open, api.Yes, api.Open, api.Yes}},
		{[]int{1}, -1, []api.Answer{api.Open, api.Yes, api.Open, api.Yes}},
		{[]int{1}, 0, []api.Answer{api.Open, api.No, api.Open, api.Yes}},
		{[]int{1}, 3, []api.Answer{api.Open, api.No, api.Open, api.Yes}},
		{[]int{1}, 4, []api.Answer{api.No, api.No, api.No, api.Yes}},
		{[]int{1}, 6, []api.Answer{api.No, api.No, api.No, api.Yes}},
		{[]int{1}, 7, []api.Answer{api.No, api.No, api.No, api.No}},
		{[]int{1}, -most, []api.Answer{api.Yes, api.Yes, api.Yes, api.Yes}},
		{[]int{1}, most, []api.Answer{api.No, api.No, api.No, api.No}},
		{[]int{3}, -most, []api.Answer{api.Open, api.Open, api.Yes, api.Open}},
		{[]int{3}, most, []api.Answer{api.Open, api.Open, api.No, api.Open}},
		{[]int{1, 3}, -1, []api.Answer{api.Open, api.Yes, api.Open, api.Yes}},
		{[]int{1, 3}, -most, []api.Answer{api.Yes, api.Yes, api.Open, api.Yes}},
		{[]int{1, 3}, most, []api.Answer{api.No, api.No, api.Open, api.No}},
		{nil, -1, []api.Answer{api.Open, api.Open, api.Open, api.Open}},
	} {
		l, e := sensor.Above(exact(0), samples, x.chain, x.limit)
		equal(t, x.limit, l, e, x.want, api.OK)
	}
	l, e = sensor.Above(exact(0), nil, []int{1}, 5)
	equal(t, "no samples", l, e, nil, api.OK)
}

// P6.4: limits that are none, and sets beyond MaxValue.
func TestAboveRange(t *testing.T) {
	for _, limit := range append(wildNumbers(), -most-1, most+1) {
		l, e := sensor.Above(example(), exampleSamples(), []int{1}, limit)
		equal(t, limit, l, e, nil, api.ErrRange)
		l, e = sensor.Above(example(), nil, nil, limit)
		equal(t, limit, l, e, nil, api.ErrRange)
	}
	for _, x := range []struct {
		offset, raw api.Span
		limit       int64
		want        api.Answer
	}{
		{span(-1, -1), span(most, most), most, api.Yes},
		{span(0, 0), span(most, most), most, api.No},
		{span(1, 1), span(-most, -most), -most, api.No},
		{span(0, 0), span(-most, -most), -most, api.No},
		{span(-1, 1), span(-most, -most), -most, api.Open},
		{span(-1, 1), span(most, most), most, api.Open},
		{span(-most, -most), span(most, most), most, api.Yes},
	} {
		s := api.Sensor{Events: []api.Event{check(0, x.offset.Lo, x.offset.Hi)}}
		l, e := sensor.Above(s, []api.Sample{{Raw: x.raw}}, []int{1}, x.limit)
		equal(t, x, l, e, []api.Answer{x.want}, api.OK)
	}
}

// P6.4: an answer tells of all numbers of a set.
func TestAboveIsDefined(t *testing.T) {
	r := rand.New(rand.NewSource(4))
	many := map[api.Answer]int{}
	for range 3000 {
		s, l, c := someSensor(r, 6), someSamples(r, 5), someChain(r)
		limit := 70 + r.Int63n(60)
		answers, e := sensor.Above(s, l, c, limit)
		var want []api.Answer
		for _, v := range valuesOf(s, l, c) {
			answer := api.Open
			if !v.Empty && v.Lo.Step != 0 && v.Set.Lo > limit {
				answer = api.Yes
			} else if !v.Empty && v.Lo.Step != 0 && v.Set.Hi <= limit {
				answer = api.No
			}
			want = append(want, answer)
			many[answer]++
		}
		equal(t, limit, answers, e, want, api.OK)
	}
	if many[api.Yes] < 500 || many[api.No] < 500 || many[api.Open] < 500 {
		t.Error(many)
	}
}

// P6.5: the chapter's example, and all ways in which two values can differ.
func TestChanged(t *testing.T) {
	l, e := sensor.Changed(example(), exampleSamples(), []int{1}, []int{1, 2})
	equal(t, "the example", l, e, []int{1}, api.OK)
	samples := []api.Sample{sample(0, 0, 0), sample(100, 0, 5), sample(200, 0, 5), sample(300, 0, 0), sample(400, 0, 9)}
	samples[1].Near = []api.Span{span(0, 5)}
	samples[2].Near = []api.Span{span(6, 7)}
	samples[3].Near = []api.Span{span(1, 1)}
	samples[4].Near = []api.Span{span(3, 5), span(6, 7)}
	for _, x := range []struct {
		c, d []int
		want []int
	}{
		// The first one has no constraint, or just the number 0.
		{[]int{1}, nil, []int{0, 1, 2, 3, 4}},
		{[]int{3}, nil, []int{1, 2, 3, 4}},
		{[]int{1}, []int{3}, []int{0, 2, 3, 4}},
		// The third, the fourth and the last one become empty.
		{[]int{1}, []int{1, 3}, []int{2, 3, 4}},
		{[]int{3}, []int{1, 3}, []int{0, 2, 3}},
		{[]int{1, 3}, []int{3, 1}, nil},
		{[]int{1, 3}, []int{3, 1, 2}, nil},
		{nil, nil, nil},
		{[]int{1}, []int{1}, nil},
		{[]int{1, 3}, []int{2}, []int{0, 1, 2, 3, 4}},
	} {
		l, e := sensor.Changed(exact(0), samples, x.c, x.d)
		equal(t, x, l, e, x.want, api.OK)
		l, e = sensor.Changed(exact(0), samples, x.d, x.c)
		equal(t, x, l, e, x.want, api.OK)
	}
}

// P6.5: a set that is empty differs from one that has all numbers, and either
// from one with the number 0.
func TestChangedEmpty(t *testing.T) {
	zero, none := sample(0, 0, 0), sample(0, 0, 9)
	none.Near = []api.Span{span(-1, -1), span(1, 1)}
	for _, x := range []struct {
		l    api.Sample
		c, d []int
		want []int
	}{
		{zero, []int{1}, []int{3}, []int{0}},
		{none, []int{3}, nil, []int{0}},
		{none, []int{1, 3}, []int{4}, []int{0}},
		{none, []int{1, 3}, []int{3}, nil},
		{none, []int{4}, nil, nil},
	} {
		l, e := sensor.Changed(exact(0), []api.Sample{x.l}, x.c, x.d)
		equal(t, x, l, e, x.want, api.OK)
	}
	both := api.Sample{Raw: span(0, 0), Near: []api.Span{span(1, 1)}}
	l, e := sensor.Changed(exact(0), []api.Sample{both}, []int{1}, []int{1, 3})
	equal(t, "just 0, and empty", l, e, []int{0}, api.OK)
}

// P6.5: Changed agrees with the definitions.
func TestChangedIsDefined(t *testing.T) {
	r := rand.New(rand.NewSource(5))
	same, changed := 0, 0
	for range 4000 {
		s, l, c, d := someSensor(r, 6), someSamples(r, 6), someChain(r), someChain(r)
		var want []int
		v, w := valuesOf(s, l, c), valuesOf(s, l, d)
		for i := range l {
			v[i].Lo, v[i].Hi = by(min(1, v[i].Lo.Step), 0), api.Cause{}
			w[i].Lo, w[i].Hi = by(min(1, w[i].Lo.Step), 0), api.Cause{}
			if v[i] != w[i] {
				want = append(want, i)
			}
		}
		got, e := sensor.Changed(s, l, c, d)
		equal(t, l, got, e, want, api.OK)
		changed, same = changed+len(want), same+len(l)-len(want)
	}
	if same < 1000 || changed < 1000 {
		t.Error(same, changed)
	}
}

// P6.6: the first sample whose set is empty, and the two constraints.
func TestContradict(t *testing.T) {
	torn := sample(200, 10, 20)
	torn.Near = []api.Span{span(12, 15), span(0, 9), span(5, 9), span(16, 18)}
	l := []api.Sample{sample(0, 10, 20), sample(100, 10, 20), torn, sample(300, 10, 20)}
	l[3].Climate = span(30, 40)
	for _, x := range []struct {
		l      []api.Sample
		chain  []int
		i      int
		lo, hi api.Cause
		want   api.Errno
	}{
		{nil, []int{1}, 0, api.Cause{}, api.Cause{}, api.ErrNone},
		{l, nil, 0, api.Cause{}, api.Cause{}, api.ErrNone},
		{l, []int{1}, 0, api.Cause{}, api.Cause{}, api.ErrNone},
		{l[:2], []int{1, 2, 3, 4}, 0, api.Cause{}, api.Cause{}, api.ErrNone},
		{l, []int{1, 3}, 2, by(3, 3), by(3, 1), api.OK},
		{l, []int{1, 2}, 3, by(2, 0), by(1, 0), api.OK},
		{l, []int{2, 1}, 3, by(2, 0), by(1, 0), api.OK},
		{l, []int{1, 2, 3}, 2, by(3, 3), by(3, 1), api.OK},
		{l[2:3], []int{1, 3}, 0, by(3, 3), by(3, 1), api.OK},
		{l, []int{2, 4}, 0, api.Cause{}, api.Cause{}, api.ErrNone},
	} {
		i, lo, hi, e := sensor.Contradict(exact(0), x.l, x.chain)
		if i != x.i || lo != x.lo || hi != x.hi || e != x.want {
			t.Error(x.chain, i, lo, hi, e)
		}
	}
}

// P6.6: samples that contradict each other by their rate, and an offset that is
// empty, which is no contradiction of constraints.
func TestContradictRate(t *testing.T) {
	l := []api.Sample{sample(0, 10, 20), sample(1440, 31, 40)}
	for _, x := range []struct {
		chain  []int
		change int64
		lo, hi api.Cause
		want   api.Errno
	}{
		{[]int{1, 4}, 10, by(4, 1), by(1, 0), api.OK},
		{[]int{4, 1}, 10, by(4, 1), by(1, 0), api.OK},
		{[]int{1, 4}, 11, api.Cause{}, api.Cause{}, api.ErrNone},
		{[]int{1}, 10, api.Cause{}, api.Cause{}, api.ErrNone},
	} {
		i, lo, hi, e := sensor.Contradict(exact(x.change), l, x.chain)
		if i != 0 || lo != x.lo || hi != x.hi || e != x.want {
			t.Error(x.chain, i, lo, hi, e)
		}
	}
	s := api.Sensor{Events: []api.Event{check(0, 0, 0), check(10, 1, 1)}}
	if i, lo, hi, e := sensor.Contradict(s, l, []int{1, 4}); i != 0 || lo != (api.Cause{}) || hi != lo || e != api.ErrNone {
		t.Error(i, lo, hi, e)
	}
}

// P6.6: Contradict agrees with the definitions.
func TestContradictIsDefined(t *testing.T) {
	r := rand.New(rand.NewSource(6))
	many := map[api.Errno]int{}
	for range 5000 {
		s, l, c := someSensor(r, 6), someSamples(r, 6), someChain(r)
		v := valuesOf(s, l, c)
		want, wantErr := api.Value{}, api.ErrNone
		first := max(0, slices.IndexFunc(v, func(x api.Value) bool { return x.Empty }))
		if anyEmpty(v) {
			want, wantErr = v[first], api.OK
		}
		i, lo, hi, e := sensor.Contradict(s, l, c)
		if i != first || lo != want.Lo || hi != want.Hi || e != wantErr {
			t.Fatal(s, l, c, i, lo, hi, e)
		}
		many[e]++
	}
	if many[api.OK] < 500 || many[api.ErrNone] < 500 {
		t.Error(many)
	}
}
