package sensor_test

import (
	"math/rand"
	"slices"
	"testing"

	"isobath/api"
	"isobath/sensor"
)

// P6.2: the chapter's examples, and that of DOC.md.
func TestExamplesOfOffset(t *testing.T) {
	for _, x := range []struct {
		at    int64
		count []int
		want  api.Span
	}{{1440, []int{0}, span(-20, 30)}, {4320, []int{1, 2}, span(-20, 25)}} {
		l, e := sensor.Counting(example(), x.at)
		equal(t, x.at, l, e, x.count, api.OK)
		if o, e := sensor.Offset(example(), x.at); o != x.want || e != api.OK {
			t.Error(x.at, o, e)
		}
	}
	s := api.Sensor{Events: []api.Event{check(100, 0, 10)}, Drift: 20}
	if o, e := sensor.Offset(s, 1540); o != span(-20, 30) || e != api.OK {
		t.Error(o, e)
	}
}

// P6.2: the events that count before, between and after cleanings, at each of
// these times and just before and after it.
func TestCounting(t *testing.T) {
	s := api.Sensor{Events: []api.Event{
		check(500, 0, 1), clean(200, 0, 1), check(100, 0, 1), check(300, 0, 1), clean(400, 0, 1), check(150, 0, 1), clean(600, 0, 1),
	}}
	for _, x := range []struct {
		from, to int64
		want     []int
	}{
		{0, 199, []int{2, 5}},
		{200, 399, []int{1, 3}},
		{400, 599, []int{0, 4}},
		{600, latest, []int{6}},
	} {
		for _, at := range []int64{x.from, x.from + 1, (x.from + x.to) / 2, x.to - 1, x.to} {
			l, e := sensor.Counting(s, at)
			equal(t, at, l, e, x.want, api.OK)
		}
	}
	for _, at := range []int64{0, 7, latest} {
		l, e := sensor.Counting(api.Sensor{}, at)
		equal(t, at, l, e, nil, api.OK)
	}
	ends := api.Sensor{Events: []api.Event{clean(latest, 0, 0), check(latest-1, 0, 0), check(0, 0, 0), clean(1, 0, 0)}}
	for at, want := range map[int64][]int{0: {2}, 1: {1, 3}, latest - 1: {1, 3}, latest: {0}} {
		l, e := sensor.Counting(ends, at)
		equal(t, at, l, e, want, api.OK)
	}
	first := api.Sensor{Events: []api.Event{clean(0, 0, 0), check(latest, 0, 0)}}
	for _, at := range []int64{0, 1, latest} {
		l, e := sensor.Counting(first, at)
		equal(t, at, l, e, []int{0, 1}, api.OK)
	}
}

// P6.2: times that are none.
func TestOffsetRange(t *testing.T) {
	for _, at := range append(wildNumbers(), -1, latest+1) {
		for _, s := range []api.Sensor{example(), {}} {
			l, e := sensor.Counting(s, at)
			equal(t, at, l, e, nil, api.ErrRange)
			if o, e := sensor.Offset(s, at); o != (api.Span{}) || e != api.ErrRange {
				t.Error(at, o, e)
			}
		}
	}
}

// P6.2: the reach grows with the distance, and is rounded up; offsets may be
// empty, unknown, or beyond MaxValue.
func TestOffset(t *testing.T) {
	slow := api.Sensor{Events: []api.Event{check(5000, -3, 4)}, Drift: 1}
	fast := api.Sensor{Events: []api.Event{check(5000, -3, 4)}, Drift: 1441}
	two := api.Sensor{Events: []api.Event{check(4320, 30, 40), check(0, 0, 10)}, Drift: 10}
	far := api.Sensor{Events: []api.Event{check(0, most, most)}, Drift: api.MaxRate}
	low := api.Sensor{Events: []api.Event{check(latest, -most, -most)}, Drift: api.MaxRate}
	cleaned := api.Sensor{Events: []api.Event{clean(1000, 0, 0), check(2000, 5, 5)}}
	for i, x := range []struct {
		s    api.Sensor
		t    int64
		want api.Span
		e    api.Errno
	}{
		{slow, 5000, span(-3, 4), api.OK},
		{slow, 5001, span(-4, 5), api.OK},
		{slow, 4999, span(-4, 5), api.OK},
		{slow, 6440, span(-4, 5), api.OK},
		{slow, 3560, span(-4, 5), api.OK},
		{slow, 6441, span(-5, 6), api.OK},
		{slow, 3559, span(-5, 6), api.OK},
		{fast, 5001, span(-5, 6), api.OK},
		{fast, 4999, span(-5, 6), api.OK},
		{fast, 6440, span(-1444, 1445), api.OK},
		{two, 0, span(0, 10), api.OK},
		{two, 1440, span(10, 20), api.OK},
		{two, 4320, span(30, 40), api.OK},
		{two, 1441, span(10, 21), api.OK},
		{two, 5760, span(20, 50), api.OK},
		{far, 0, span(most, most), api.OK},
		{far, latest, span(most-781874935308, most+781874935308), api.OK},
		{low, 0, span(-most-781874935308, -most+781874935308), api.OK},
		{api.Sensor{}, 0, api.Span{}, api.ErrNone},
		{api.Sensor{Drift: api.MaxRate}, latest, api.Span{}, api.ErrNone},
		{cleaned, 999, api.Span{}, api.ErrNone},
		{cleaned, 1000, api.Span{}, api.ErrSum},
		{cleaned, latest, api.Span{}, api.ErrSum},
	} {
		if o, e := sensor.Offset(x.s, x.t); o != x.want || e != x.e {
			t.Error(i, o, e)
		}
	}
	touch := api.Sensor{Events: []api.Event{check(0, 0, 10), check(100, 10, 20), check(200, -5, 10)}}
	if o, e := sensor.Offset(touch, 300); o != span(10, 10) || e != api.OK {
		t.Error(o, e)
	}
	touch.Events[1].Offset.Lo = 11
	if o, e := sensor.Offset(touch, 300); o != (api.Span{}) || e != api.ErrSum {
		t.Error(o, e)
	}
}

// P6.2: both agree with the definitions.
func TestOffsetIsDefined(t *testing.T) {
	r := rand.New(rand.NewSource(1))
	many := map[api.Errno]int{}
	for range 6000 {
		s := someSensor(r, 8)
		for range 4 {
			at := someMoment(r, s)
			l, e := sensor.Counting(s, at)
			equal(t, s, l, e, countingOf(s, at), api.OK)
			if !slices.IsSorted(l) {
				t.Fatal(s, at, l)
			}
			want, wantErr := offsetOf(s, at)
			o, e := sensor.Offset(s, at)
			if o != want || e != wantErr {
				t.Fatal(s, at, o, e, want, wantErr)
			}
			many[e]++
		}
	}
	if many[api.OK] < 1000 || many[api.ErrNone] < 1000 || many[api.ErrSum] < 1000 {
		t.Error(many)
	}
}

// P6.2: a sensor with all events that it can have.
func TestOffsetOfMany(t *testing.T) {
	s := api.Sensor{Events: spaced(64)}
	for i := range 64 {
		all := keptSensor(s)
		all.Events[i].Offset = span(1, 1)
		if o, e := sensor.Offset(all, 1000); o != span(1, 1) || e != api.OK {
			t.Error(i, o, e)
		}
		all.Events[i].Kind = api.EventClean
		l, e := sensor.Counting(all, 7*int64(i))
		equal(t, i, l, e, countingOf(all, 7*int64(i)), api.OK)
		if len(l) != 64-i || l[0] != i {
			t.Error(i, l)
		}
	}
}
