package sound_test

import (
	"math"
	"math/rand"
	"slices"
	"testing"

	"isobath/api"
	"isobath/sound"
)

// P7.8: the chapter's examples.
func TestExamplesOfWarn(t *testing.T) {
	arrival := span(50000, 101000)
	l, e := sound.Warn(quick(), point(0, 0), span(0, 1000), 5000, exampleCoasts())
	equal(t, "example", l, e, []api.Warning{{Arrival: arrival, InTime: yes}, {Arrival: arrival, InTime: yes}, {Arrival: arrival, InTime: no}}, api.OK)
}

// P7.8: an alarm just in time, and just too late.
func TestInTime(t *testing.T) {
	for _, x := range []struct {
		at, need int64
		want     api.Answer
	}{
		{50000, 0, yes}, {50001, 0, open}, {101000, 0, open}, {101001, 0, no},
		{0, 50, yes}, {1, 50, open}, {0, 51, open}, {0, 101, open}, {1, 101, no}, {0, 102, no},
		{-50000, 100, yes}, {-49999, 100, open}, {1000, 100, open}, {1001, 100, no},
		{-instant, api.MaxNeed, yes}, {instant, api.MaxNeed, no}, {-instant, 0, yes}, {instant, 0, no},
		{50000 - 1000*api.MaxNeed, api.MaxNeed, yes}, {50001 - 1000*api.MaxNeed, api.MaxNeed, open},
		{101000 - 1000*api.MaxNeed, api.MaxNeed, open}, {101001 - 1000*api.MaxNeed, api.MaxNeed, no},
	} {
		l, e := sound.Warn(quick(), point(0, 0), span(0, 1000), x.at, []api.Coast{{At: point(10000, 0), Need: x.need}})
		equal(t, x, l, e, []api.Warning{{Arrival: span(50000, 101000), InTime: x.want}}, api.OK)
	}
}

// P7.8: arrivals that begin and end at the limits, and at the source itself.
func TestWarnArrivals(t *testing.T) {
	n := quick()
	n.Speed = span(1, 20000)
	far := box(-place, -place, -place, place)
	for _, x := range []struct {
		source api.Box
		origin api.Span
		coast  api.Box
		want   api.Span
	}{
		{point(0, 0), exactly(0), point(0, 0), exactly(0)},
		{point(0, 0), span(-5, 7), point(0, 0), span(-5, 7)},
		{point(0, 0), exactly(instant), point(0, 0), exactly(instant)},
		{point(0, 0), exactly(-instant), point(0, 0), exactly(-instant)},
		{point(0, 0), span(-instant, instant), point(3, 4), span(-instant, instant+5000)},
		{point(0, 0), span(10, 20), point(300, 400), span(35, 500020)},
		{box(0, 10, 0, 10), span(10, 20), box(307, 310, 5, 5), span(10+14, 20+311000)},
		{far, exactly(0), box(place, place, place, place), span(26843545, 759250125000)},
		{far, exactly(instant), far, span(instant, instant+1000<<29)},
	} {
		l, e := sound.Warn(n, x.source, x.origin, 0, []api.Coast{{At: x.coast}})
		if e != api.OK || len(l) != 1 || l[0].Arrival != x.want {
			t.Error(x, l, e)
		}
	}
}

// P7.8: what Warn is told may not be valid.
func TestWarnErrors(t *testing.T) {
	fails := func(name any, n api.Net, source api.Box, origin api.Span, at int64, l []api.Coast, want api.Errno) {
		t.Helper()
		w, e := sound.Warn(n, source, origin, at, l)
		equal(t, name, w, e, nil, want)
	}
	n, home, origin, coasts := quick(), point(0, 0), span(0, 1000), exampleCoasts()
	fails("net", api.Net{}, home, origin, 5000, coasts, api.ErrArg)
	fails("net of one", line(1), home, origin, 5000, coasts, api.ErrArg)
	for _, b := range badBoxes() {
		fails(b, n, b, origin, 5000, coasts, api.ErrArg)
		fails(b, n, b, origin, instant+1, make([]api.Coast, 17), api.ErrArg)
		for at := range 3 {
			l := exampleCoasts()
			l[at].At = b
			fails(b, n, home, origin, 5000, l, api.ErrArg)
		}
	}
	for _, a := range badTimes() {
		fails(a, n, home, a, 5000, coasts, api.ErrArg)
		fails(a, n, home, a, instant+1, make([]api.Coast, 17), api.ErrArg)
	}
	for _, at := range append(wildNumbers(), instant+1, -instant-1) {
		fails(at, n, home, origin, at, coasts, api.ErrRange)
		fails(at, n, home, origin, at, nil, api.ErrRange)
		fails(at, n, home, origin, at, make([]api.Coast, 17), api.ErrRange)
	}
	for _, many := range []int{17, 18, 1000} {
		fails(many, n, home, origin, 5000, slices.Repeat(coasts[:1], many), api.ErrMany)
		fails(many, n, home, origin, 5000, slices.Repeat([]api.Coast{{Need: -1}}, many), api.ErrMany)
	}
	for _, need := range append(wildNumbers(), -1, api.MaxNeed+1) {
		for at := range 3 {
			l := exampleCoasts()
			l[at].Need = need
			fails(need, n, home, origin, 5000, l, api.ErrArg)
		}
	}
}

// P7.8: as many coasts as there can be, in their order, and none.
func TestWarnMany(t *testing.T) {
	l, e := sound.Warn(quick(), point(0, 0), span(0, 1000), 5000, nil)
	equal(t, "none", l, e, nil, api.OK)
	l, e = sound.Warn(quick(), point(0, 0), exactly(instant), -instant, []api.Coast{})
	equal(t, "none", l, e, nil, api.OK)
	var coasts []api.Coast
	var want []api.Warning
	for i := range int64(16) {
		c := api.Coast{At: point(1000*i, 0), Need: 7 * i}
		coasts = append(coasts, c)
		want = append(want, warningOf(quick(), point(0, 0), span(0, 1000), 5000, c))
	}
	l, e = sound.Warn(quick(), point(0, 0), span(0, 1000), 5000, coasts)
	equal(t, "sixteen", l, e, want, api.OK)
}

// someWarning returns arguments of Warn, whose alarm is around the arrival at a
// coast.
func someWarning(r *rand.Rand) (api.Net, api.Box, api.Span, int64, []api.Coast) {
	far := []int64{20, 5000, place}[r.Intn(3)]
	n, source := someNet(r, 4, far, far), someBox(r, far, far/4)
	origin := someSpan(r, r.Int63n(200001)-100000, 1+r.Int63n(2000))
	var coasts []api.Coast
	for range 1 + r.Intn(4) {
		coasts = append(coasts, api.Coast{At: someBox(r, far, far/4), Need: r.Int63n([]int64{3, 100, api.MaxNeed + 1}[r.Intn(3)])})
	}
	w := warningOf(n, source, origin, 0, coasts[0])
	at := w.Arrival.Lo - 1000*coasts[0].Need + r.Int63n(2*(w.Arrival.Hi-w.Arrival.Lo)+10) - 5
	return n, source, origin, at, coasts
}

// P7.8: Warn agrees with the definitions.
func TestWarnIsDefined(t *testing.T) {
	r := rand.New(rand.NewSource(17))
	many := map[api.Answer]int{}
	for range 4000 {
		n, source, origin, at, coasts := someWarning(r)
		var want []api.Warning
		for _, c := range coasts {
			w := warningOf(n, source, origin, at, c)
			want = append(want, w)
			many[w.InTime]++
		}
		l, e := sound.Warn(n, source, origin, at, coasts)
		equal(t, coasts, l, e, want, api.OK)
	}
	if many[no] < 500 || many[open] < 500 || many[yes] < 500 {
		t.Error(many)
	}
}

// P7.14: for each source, origin, coast and speed within the bounds the wave
// arrives within the arrival; if Warn says Yes, the coast has its time, and if it
// says No, it has not.
func TestCoastsHaveTheirTime(t *testing.T) {
	r := rand.New(rand.NewSource(18))
	for range 3000 {
		n, source, origin, at, coasts := someWarning(r)
		l, e := sound.Warn(n, source, origin, at, coasts)
		if e != api.OK {
			t.Fatal(e)
		}
		for i, c := range coasts {
			due := float(at + 1000*c.Need)
			for range 5 {
				wave := arrives(someTruth(r, origin), someSpot(r, source), someSpot(r, c.At), someTruth(r, n.Speed))
				inTime := due.Cmp(wave) <= 0
				if !contains(l[i].Arrival, around(wave)) || l[i].InTime == yes && !inTime || l[i].InTime == no && inTime {
					t.Fatal(n, source, origin, at, c, l[i], wave)
				}
			}
		}
	}
}

// G1, for P7.8: with narrower bounds no arrival is wider, and an answer stays,
// unless it was open.
func TestNarrowerWarnings(t *testing.T) {
	r := rand.New(rand.NewSource(19))
	for range 3000 {
		n, source, origin, at, coasts := someWarning(r)
		wide, _ := sound.Warn(n, source, origin, at, coasts)
		n.Speed = narrower(r, n.Speed)
		less := each(coasts, func(c api.Coast) api.Coast { return api.Coast{At: smaller(r, c.At), Need: c.Need} })
		narrow, e := sound.Warn(n, smaller(r, source), narrower(r, origin), at, less)
		if e != api.OK {
			t.Fatal(e)
		}
		for i := range coasts {
			if !contains(wide[i].Arrival, narrow[i].Arrival) || wide[i].InTime != open && narrow[i].InTime != wide[i].InTime {
				t.Fatal(coasts[i], less[i], wide[i], narrow[i])
			}
		}
	}
}

// P7.8: only the speed of a net matters to a wave.
func TestWarnNeedsNoStations(t *testing.T) {
	want, _ := sound.Warn(quick(), point(0, 0), span(0, 1000), 5000, exampleCoasts())
	n := api.Net{Speed: quick().Speed, Stations: slices.Repeat([]api.Box{box(-place, place, -9, math.MaxInt8)}, 8)}
	l, e := sound.Warn(n, point(0, 0), span(0, 1000), 5000, exampleCoasts())
	equal(t, "other stations", l, e, want, api.OK)
}
