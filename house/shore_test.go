package house_test

import (
	"math"
	"math/rand"
	"slices"
	"testing"

	"isobath/api"
	"isobath/house"
)

// ashore is the deed of a burst that brings everything ashore.
func ashore(at int64) api.Deed { return send(api.MaxBytes, at, 0, 0) }

// arrivedIn returns a house in which readings, and events, have arrived.
func arrivedIn(t *testing.T, o api.Observatory, l ...api.Deed) *house.House {
	t.Helper()
	return built(t, o, append(slices.Clone(l), ashore(0))...)
}

// hasSeen compares the observations of a house with those that are wanted.
func hasSeen(t *testing.T, name any, h *house.House, want ...api.Seen) {
	t.Helper()
	l, e := h.Seen()
	equal(t, name, l, e, want, api.OK)
}

// above returns the question whether the value at a spot is greater than a limit.
func above(a api.Spot, limit int64) []api.Part {
	return []api.Part{{Kind: api.AskAbove, A: a, Limit: limit}}
}

// byClimate returns the observatory of the examples with the climatology alone, and
// with a field that may change by c in a moment.
func byClimate(c int64) api.Observatory {
	o := roomy()
	o.Chain, o.Field.Change = []int{api.StepClimate}, c
	return o
}

// P12.4: Readings returns the readings of a station that arrived, with their numbers.
func TestReadings(t *testing.T) {
	near := []api.Span{span(1, 2), span(-3, 4)}
	l := []api.Deed{read(0, 5, 1, 2, 1, 10), read(1, 3, 3, 4, 2, 10, near...), read(0, 6, 5, 6, 3, 10), withClimate(read(0, 9, 7, 8, 4, 10), -1, 1)}
	h := built(t, roomy(), append(l, send(40, 50, 0, 0b1000))...)
	for station, want := range [][]int64{{2, 3}, {1}} {
		numbers, samples, e := h.Readings(station)
		equal(t, station, numbers, e, want, api.OK)
		for i, n := range numbers {
			if !equalSamples(samples[i:i+1], []api.Sample{l[n].Sample}) {
				t.Error(samples)
			}
		}
	}
	h.Do(send(40, 60, 0, 0))
	numbers, samples, e := h.Readings(0)
	equal(t, "later", numbers, e, []int64{0, 2, 3}, api.OK)
	same(t, "later", len(samples), api.OK, 3, api.OK)
	for _, station := range []int{-1, 2, 8, math.MinInt64, math.MaxInt64} {
		numbers, samples, e := h.Readings(station)
		equal(t, station, numbers, e, nil, api.ErrRange)
		same(t, station, len(samples), api.OK, 0, api.OK)
		values, e := h.Values(station)
		equal(t, station, values, e, nil, api.ErrRange)
	}
	numbers, _, e = made(t, example()).Readings(1)
	equal(t, "none", numbers, e, nil, api.OK)
}

// P12.4: Values processes the readings of a station that arrived with all its events,
// in whatever order they became known, and those of no other station.
func TestValues(t *testing.T) {
	o := roomy()
	o.Chain = []int{api.StepRaw, api.StepClimate, api.StepNear, api.StepRate}
	o.Stations[0].Drift, o.Stations[0].Change = 10, 1440
	value := func(lo, hi int64, a, b api.Cause) api.Value {
		return api.Value{Set: span(lo, hi), Lo: a, Hi: b}
	}
	raw, climate, near, rate := api.Cause{Step: 1}, api.Cause{Step: 2}, api.Cause{Step: 3, Of: 1}, api.Cause{Step: 4}
	l := []api.Deed{
		withClimate(read(0, 1440, 50, 60, 1, 10), 0, 100), withClimate(read(1, 7, 1, 2, 1, 10), 0, 0), withClimate(read(0, 2880, 50, 60, 1, 10, span(0, 99), span(52, 90)), 0, 58),
		withClimate(read(0, 2885, 0, 1000, 1, 10), -500, 500),
	}
	h := arrivedIn(t, o, append(l, check(0, 5000, -9, 200), clean(0, 2000, -1, 1), check(0, 0, 2, 3), clean(1, 0, 7, 7))...)
	values, e := h.Values(0)
	equal(t, "Values", values, e, []api.Value{
		value(37, 68, raw, raw), value(52, 58, near, climate), value(47, 63, api.Cause{Step: 4, Of: 1}, api.Cause{Step: 4, Of: 1}),
	}, api.OK)
	values, e = h.Values(1)
	equal(t, "Values", values, e, []api.Value{{Lo: climate, Hi: raw, Empty: true}}, api.OK)
	h = arrivedIn(t, o, l[0], l[3])
	values, e = h.Values(0)
	rate.Of = 1
	equal(t, "without events", values, e, []api.Value{value(0, 100, climate, climate), value(-500, 500, climate, climate)}, api.OK)
}

// P12.5: an observation is at the moment of its reading, rounded down, and not before
// the first or after the last moment.
func TestMoments(t *testing.T) {
	o := byClimate(0)
	o.Start, o.Pace, o.Field.Last = 1000, 100, 2
	for at, moment := range map[int64]int{0: -1, 800: -1, 900: -1, 901: -1, 999: -1, 1000: 0, 1001: 0, 1099: 0, 1100: 1, 1199: 1, 1200: 2, 1299: 2, 1300: -1, 1301: -1, 2000: -1, most: -1} {
		h := arrivedIn(t, o, withClimate(read(1, at, 0, 0, 0, 1), 40, 50))
		if moment < 0 {
			hasSeen(t, at, h)
		} else {
			hasSeen(t, at, h, seen(moment, 2, 40, 50))
		}
	}
	o.Start, o.Pace, o.Field.Last = most, 1, 7
	hasSeen(t, "at the end", arrivedIn(t, o, withClimate(read(0, most, 0, 0, 0, 1), 40, 50)), seen(0, 0, 40, 50))
	o.Start, o.Pace = 0, 1<<20
	hasSeen(t, "long moments", arrivedIn(t, o, withClimate(read(0, 1<<23-1, 0, 0, 0, 1), 40, 50), withClimate(read(1, 1<<23, 0, 0, 0, 1), 40, 50)), seen(7, 0, 40, 50))
}

// P12.5: the observations are in the order of the numbers, whatever the stations,
// times and moments are, and are wider than the values by the change of the field.
func TestOrderOfSeen(t *testing.T) {
	l := []api.Deed{
		withClimate(read(1, 1150, 0, 0, 0, 1), 40, 50), withClimate(read(0, 1120, 0, 0, 0, 1), 41, 51), withClimate(read(1, 1160, 0, 0, 9, 1), 42, 52), withClimate(read(0, 1130, 0, 0, 0, 1), 43, 53),
	}
	want := []api.Seen{seen(1, 2, 33, 57), seen(1, 0, 34, 58), seen(1, 2, 35, 59), seen(1, 0, 36, 60)}
	h := arrivedIn(t, byClimate(7), l...)
	hasSeen(t, "all", h, want...)
	h = built(t, byClimate(7), append(l, send(api.MaxBytes, 5, 0, 0b0100))...)
	hasSeen(t, "some", h, want[0], want[1], want[2])
	h.Do(ashore(6))
	hasSeen(t, "all", h, want...)
}

// P12.5: a value without a constraint, and one that is empty, are no observations.
func TestValuesThatAreNotSeen(t *testing.T) {
	l := []api.Deed{withClimate(read(0, 1000, 1, 2, 0, 1), 0, 0), withClimate(read(1, 1000, 1, 2, 0, 1), 1, 1), withClimate(read(0, 1001, 0, 0, 0, 1), 0, 0)}
	o := roomy()
	hasSeen(t, "no event", arrivedIn(t, o, l...))
	hasSeen(t, "an event", arrivedIn(t, o, append(l, check(1, 0, 0, 0))...), seen(0, 2, -4, 7))
	hasSeen(t, "events", arrivedIn(t, o, append(l, check(1, 0, 0, 0), clean(0, 1001, 0, 0), check(0, 999, 0, 5))...), seen(0, 0, -9, 7), seen(0, 2, -4, 7), seen(0, 0, -5, 5))
	hasSeen(t, "an empty offset", arrivedIn(t, o, append(l, check(1, 0, 0, 0), check(1, 1, 1, 1))...))
	o.Chain = nil
	hasSeen(t, "no chain", arrivedIn(t, o, append(l, check(1, 0, 0, 0))...))
	o.Chain = []int{api.StepClimate, api.StepRaw}
	hasSeen(t, "empty", arrivedIn(t, o, append(l, check(1, 0, 0, 0), check(0, 0, 0, 0))...), seen(0, 2, -4, 6), seen(0, 0, -5, 5))
	o.Chain = []int{api.StepClimate}
	hasSeen(t, "zero is a value", arrivedIn(t, o, l...), seen(0, 0, -5, 5), seen(0, 2, -4, 6), seen(0, 0, -5, 5))
}

// P12.5: an observation whose span is not valid is left out.
func TestSpansThatAreNotSeen(t *testing.T) {
	for _, x := range []struct {
		lo, hi int64
		ok     bool
	}{
		{-most, 0, false}, {-most + 4, 0, false}, {-most + 5, 0, true}, {0, most, false}, {0, most - 4, false}, {0, most - 5, true}, {-most + 5, most - 5, true}, {-most + 4, most - 4, false},
	} {
		h := arrivedIn(t, byClimate(5), withClimate(read(0, 1000, 0, 0, 0, 1), x.lo, x.hi), withClimate(read(1, 1000, 0, 0, 0, 1), 1, 1))
		if x.ok {
			hasSeen(t, x, h, seen(0, 0, x.lo-5, x.hi+5), seen(0, 2, -4, 6))
		} else {
			hasSeen(t, x, h, seen(0, 2, -4, 6))
		}
	}
	o := roomy()
	o.Stations[0].Drift = api.MaxRate
	h := arrivedIn(t, o, read(0, 1000, most, most, 0, 1), check(0, 1000, -most, -most))
	hasSeen(t, "beyond the limit", h)
	h = arrivedIn(t, o, read(0, 1000, 1, 1, 0, 1), check(0, most, -most, most), check(1, most, 0, 0))
	hasSeen(t, "far beyond the limit", h)
}

// many returns n readings of the two stations by turns, of which each one with a number
// that is left out has no span that is valid.
func many(n int, left ...int) []api.Deed {
	var l []api.Deed
	for i := range n {
		d := withClimate(read(i%2, 1000+int64(i), 0, 0, 0, 1), 40, 50)
		if slices.Contains(left, i) {
			d = withClimate(d, 0, most)
		}
		l = append(l, d)
	}
	return l
}

// P12.5: of more than 64 observations there are the first 64. Those that are left out
// do not count.
func TestManySeen(t *testing.T) {
	for _, left := range [][]int{nil, {0}, {1, 3, 8, 63}} {
		for _, n := range []int{63, 64, 65, 66, 100, 128} {
			var want []api.Seen
			o := byClimate(1)
			for i := range n {
				if len(want) < 64 && !slices.Contains(left, i) {
					want = append(want, seen(min(i/100, 1), 2*(i%2), 39, 51))
				}
			}
			hasSeen(t, n, arrivedIn(t, o, many(n, left...)...), want...)
		}
	}
}

// P12.5: with those that come later than the first 64 observations, answers stay.
func TestManySeenAnswer(t *testing.T) {
	l := many(128)
	for i := range l {
		l[i].Sample.Climate = span(int64(i), 200)
	}
	for n, want := range map[int]int64{1: 0, 10: 8, 64: 62, 65: 62, 128: 62} {
		h := arrivedIn(t, byClimate(0), l[:n]...)
		x, e := h.Ask(above(spot(0, 0), want-1))
		same(t, n, x, e, api.Yes, api.OK)
		x, e = h.Ask(above(spot(0, 0), want))
		same(t, n, x, e, api.Open, api.OK)
	}
}

// P12.4 and P12.5: more than 64 readings of a station cannot be processed.
func TestManySamples(t *testing.T) {
	for station := range 2 {
		h := made(t, byClimate(1))
		for i := range int64(66) {
			h.Do(withClimate(read(station, 1000+i, 0, 0, 0, 1), 40, 50))
		}
		h.Do(withClimate(read(1-station, 1000, 0, 0, 9, 1), 40, 50))
		// The one of the other station is sent first, and the next two are lost.
		h.Do(send(65, 1, 0, 0b110))
		l, e := h.Values(station)
		same(t, station, len(l), e, 62, api.OK)
		h.Do(send(2, 2, 0, 0))
		l, e = h.Values(station)
		same(t, station, len(l), e, 64, api.OK)
		h.Do(send(1, 3, 0, 0))
		l, e = h.Values(station)
		same(t, station, len(l), e, 0, api.ErrMany)
		numbers, samples, e := h.Readings(station)
		same(t, station, len(numbers), e, 65, api.OK)
		same(t, station, len(samples), e, 65, api.OK)
		l, e = h.Values(1 - station)
		same(t, station, len(l), e, 1, api.OK)
		all, e := h.Seen()
		equal(t, station, all, e, nil, api.ErrMany)
		for _, q := range [][]api.Part{nil, above(spot(0, 0), 0), make([]api.Part, 33)} {
			x, e := h.Ask(q)
			same(t, station, x, e, api.No, api.ErrMany)
		}
		same(t, "Copy", tells(h.Copy()), api.OK, tells(h), api.OK)
	}
}

// P12.5: Ask answers questions of the field by the observations.
func TestAsk(t *testing.T) {
	h := built(t, example(), diary(5)...)
	limits := func(name string, a api.Spot, set api.Span) {
		t.Helper()
		for limit, want := range map[int64]api.Answer{set.Lo - 1: api.Yes, set.Lo: api.Open, set.Hi - 1: api.Open, set.Hi: api.No, most: api.No, -most: api.Yes} {
			x, e := h.Ask(above(a, limit))
			same(t, name, x, e, want, api.OK)
		}
	}
	limits("one", spot(0, 0), span(15, 35))
	limits("one", spot(1, 2), span(0, 60))
	h.Do(send(100, 1210, 0, 0))
	limits("two", spot(0, 0), span(28, 35))
	limits("two", spot(1, 2), span(53, 60))
	x, e := made(t, example()).Ask(above(spot(0, 0), 0))
	same(t, "nothing", x, e, api.Open, api.OK)
	x, e = made(t, example()).Ask(above(spot(0, 0), -1))
	same(t, "Range", x, e, api.Yes, api.OK)
}

// P12.5: Ask returns the errors of field.Ask.
func TestAskErrors(t *testing.T) {
	h := built(t, example(), diary(7)...)
	bad := append(diary(2), check(0, 1000, 0, 5), check(1, 1000, -9, -9), send(100, 1200, 0, 0))
	apart := built(t, example(), bad...)
	for i, x := range []struct {
		q    []api.Part
		want api.Errno
	}{
		{nil, api.ErrRule}, {make([]api.Part, 33), api.ErrMany}, {make([]api.Part, 32), api.ErrArg}, {above(spot(2, 0), 5), api.ErrArg}, {above(spot(0, 3), 5), api.ErrArg},
		{above(spot(0, 0), most+1), api.ErrArg}, {[]api.Part{{Kind: api.AskNot}}, api.ErrRule}, {append(above(spot(0, 0), 5), above(spot(0, 0), 5)...), api.ErrRule}, {above(spot(0, 0), 5), api.OK},
	} {
		y, e := h.Ask(x.q)
		same(t, i, e, api.OK, x.want, api.OK)
		if e != api.OK {
			same(t, i, y, e, api.No, x.want)
		}
		y, e = apart.Ask(x.q)
		same(t, i, y, e, api.No, api.ErrSum)
	}
	l, e := apart.Seen()
	equal(t, "Seen", l, e, []api.Seen{seen(0, 0, 15, 35), seen(1, 2, 64, 76)}, api.OK)
}

// P12.4 and P12.5: what is told on shore changes nothing.
func TestTellingChangesNothing(t *testing.T) {
	r := rand.New(rand.NewSource(3))
	for n := range 60 {
		l := sizes()[n%len(sizes())].begin(r)
		h, m := made(t, l.o), modelOf(l.o)
		for range 40 {
			d := l.deed()
			h.Do(d)
			m.do(d)
			tells(h, questions(r, l.o.Field, 1)...)
		}
		m.holds(t, n, h, questions(r, l.o.Field, 1)...)
	}
}
