package sensor_test

import (
	"math"
	"slices"
	"testing"

	"isobath/api"
	"isobath/sensor"
)

// spaced returns n checks at different times.
func spaced(n int) []api.Event {
	var l []api.Event
	for i := range int64(n) {
		l = append(l, check(7*i, -1, 1))
	}
	return l
}

// P6.1: sensors at and above their limits.
func TestCheckNumbers(t *testing.T) {
	bad := append(spaced(64), check(-1, 1, 0))
	for _, x := range []struct {
		name string
		s    api.Sensor
		want api.Errno
	}{
		{"the zero sensor", api.Sensor{}, api.OK},
		{"no events", api.Sensor{Events: []api.Event{}}, api.OK},
		{"the example", example(), api.OK},
		{"64 events", api.Sensor{Events: spaced(64)}, api.OK},
		{"65 events", api.Sensor{Events: spaced(65)}, api.ErrMany},
		{"65 events, not valid", api.Sensor{Events: bad, Drift: -1}, api.ErrMany},
		{"65 equal events", api.Sensor{Events: make([]api.Event, 65)}, api.ErrMany},
		{"64 events, the last one not valid", api.Sensor{Events: bad[1:]}, api.ErrArg},
		{"64 events, the first one not valid", api.Sensor{Events: append([]api.Event{{}}, spaced(63)...)}, api.ErrArg},
	} {
		if e := sensor.Check(x.s); e != x.want {
			t.Error(x.name, e)
		}
	}
	for _, rate := range []int64{0, 1, api.MaxRate - 1, api.MaxRate} {
		if e := sensor.Check(api.Sensor{Drift: rate, Change: api.MaxRate - rate}); e != api.OK {
			t.Error(rate, e)
		}
	}
	for _, rate := range append(wildNumbers(), -1, api.MaxRate+1) {
		for _, s := range []api.Sensor{{Drift: rate}, {Change: rate}, {Drift: rate, Change: rate}} {
			if e := sensor.Check(s); e != api.ErrArg {
				t.Error(s, e)
			}
		}
	}
}

// checkEvent tells what Check says of a sensor with an event among others.
func checkEvent(t *testing.T, x api.Event, want api.Errno) {
	t.Helper()
	for at := range 3 {
		l := []api.Event{check(500, 1, 2), clean(300, 1, 2), check(400, 1, 2)}
		l[at] = x
		if e := sensor.Check(api.Sensor{Events: l}); e != want {
			t.Error(x, at, e)
		}
	}
}

// P6.1 and R7: the kind, the time and the offset of an event.
func TestCheckEvents(t *testing.T) {
	for _, kind := range []int{api.EventCheck, api.EventClean} {
		checkEvent(t, api.Event{Kind: kind, At: 7}, api.OK)
	}
	for _, kind := range []int{-1, 0, 3, 4, math.MinInt, math.MaxInt} {
		checkEvent(t, api.Event{Kind: kind, At: 7}, api.ErrArg)
	}
	for _, at := range []int64{0, 1, latest - 1, latest} {
		checkEvent(t, check(at, 0, 0), api.OK)
		checkEvent(t, clean(at, 0, 0), api.OK)
	}
	for _, at := range append(wildNumbers(), -1, latest+1) {
		checkEvent(t, check(at, 0, 0), api.ErrArg)
		checkEvent(t, clean(at, 0, 0), api.ErrArg)
	}
	for _, a := range goodSpans() {
		checkEvent(t, api.Event{Kind: api.EventClean, At: 9, Offset: a}, api.OK)
	}
	for _, a := range badSpans() {
		checkEvent(t, api.Event{Kind: api.EventClean, At: 9, Offset: a}, api.ErrArg)
		checkEvent(t, api.Event{Kind: api.EventCheck, At: 9, Offset: a}, api.ErrArg)
	}
}

// P6.1: no two events have an equal time, wherever they are in the list.
func TestCheckTimes(t *testing.T) {
	times := []int64{40, 10, 30, 20, 0, latest}
	for i := range times {
		for k := range i {
			l := []api.Event{}
			for _, at := range times {
				l = append(l, check(at, 1, 2))
			}
			if e := sensor.Check(api.Sensor{Events: l}); e != api.OK {
				t.Error(l, e)
			}
			l[k].At = l[i].At
			l[i].Kind = api.EventClean
			if e := sensor.Check(api.Sensor{Events: l}); e != api.ErrArg {
				t.Error(l, e)
			}
		}
	}
	if e := sensor.Check(api.Sensor{Events: []api.Event{clean(5, 1, 1), clean(5, 1, 1)}}); e != api.ErrArg {
		t.Error(e)
	}
}

// row returns n samples.
func row(n int) []api.Sample {
	var l []api.Sample
	for i := range int64(n) {
		l = append(l, sample(3*i, 0, 1))
	}
	return l
}

// P6.1: how many samples there are, and the order of their times.
func TestCheckSamplesList(t *testing.T) {
	turned := row(64)
	slices.Reverse(turned)
	for _, x := range []struct {
		name string
		l    []api.Sample
		want api.Errno
	}{
		{"nil", nil, api.OK},
		{"none", []api.Sample{}, api.OK},
		{"the example", exampleSamples(), api.OK},
		{"64", row(64), api.OK},
		{"65", row(65), api.ErrMany},
		{"65, not valid", append(turned, api.Sample{At: -1}), api.ErrMany},
		{"64 from the last one on", turned, api.ErrArg},
		{"two at one time", []api.Sample{sample(5, 0, 1), sample(5, 0, 1)}, api.ErrArg},
		{"the last two at one time", []api.Sample{sample(3, 0, 1), sample(5, 0, 1), sample(5, 0, 1)}, api.ErrArg},
		{"the last one too early", []api.Sample{sample(3, 0, 1), sample(5, 0, 1), sample(4, 0, 1)}, api.ErrArg},
		{"the first one too late", []api.Sample{sample(5, 0, 1), sample(3, 0, 1), sample(4, 0, 1)}, api.ErrArg},
		{"by one minute", []api.Sample{sample(3, 0, 1), sample(4, 0, 1), sample(5, 0, 1)}, api.OK},
		{"at the limits", []api.Sample{sample(0, 0, 1), sample(latest, 0, 1)}, api.OK},
	} {
		if e := sensor.CheckSamples(x.l); e != x.want {
			t.Error(x.name, e)
		}
	}
}

// P6.1: the time, the spans and the neighbours of a sample.
func TestCheckSamples(t *testing.T) {
	try := func(x api.Sample, want api.Errno) {
		t.Helper()
		if e := sensor.CheckSamples([]api.Sample{x}); e != want {
			t.Error(x, e)
		}
	}
	for _, at := range append(wildNumbers(), -1, latest+1) {
		try(api.Sample{At: at}, api.ErrArg)
	}
	for _, a := range goodSpans() {
		try(api.Sample{Raw: a}, api.OK)
		try(api.Sample{Climate: a}, api.OK)
		try(api.Sample{Near: []api.Span{{}, a}}, api.OK)
		try(api.Sample{Near: slices.Repeat([]api.Span{a}, 8)}, api.OK)
		try(api.Sample{Near: slices.Repeat([]api.Span{a}, 9)}, api.ErrArg)
	}
	for _, a := range badSpans() {
		try(api.Sample{Raw: a}, api.ErrArg)
		try(api.Sample{Climate: a}, api.ErrArg)
		for k := range 8 {
			x := api.Sample{Near: make([]api.Span, 8)}
			x.Near[k] = a
			try(x, api.ErrArg)
		}
	}
	for k := range 3 {
		l := row(3)
		l[k].Near = make([]api.Span, 9)
		if e := sensor.CheckSamples(l); e != api.ErrArg {
			t.Error(k, e)
		}
	}
}

// P6.1 and R7: chains, and lists that are none.
func TestCheckChain(t *testing.T) {
	if n := len(chains()); n != 65 {
		t.Fatal(n)
	}
	for _, c := range chains() {
		if e := sensor.CheckChain(c); e != api.OK {
			t.Error(c, e)
		}
		for _, step := range append([]int{-1, 0, 5, math.MinInt, math.MaxInt}, c...) {
			if e := sensor.CheckChain(append(slices.Clone(c), step)); e != api.ErrArg {
				t.Error(c, step, e)
			}
			if e := sensor.CheckChain(append([]int{step}, c...)); e != api.ErrArg {
				t.Error(step, c, e)
			}
		}
	}
	for n := 5; n <= 10; n++ {
		want := api.ErrArg
		if n > 8 {
			want = api.ErrMany
		}
		for _, c := range [][]int{make([]int, n), slices.Repeat([]int{1, 2, 3, 4}, 3)[:n]} {
			if e := sensor.CheckChain(c); e != want {
				t.Error(c, e)
			}
		}
	}
	if e := sensor.CheckChain([]int{}); e != api.OK {
		t.Error(e)
	}
}
