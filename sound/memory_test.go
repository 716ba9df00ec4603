package sound_test

import (
	"math"
	"math/rand"
	"slices"
	"testing"

	"isobath/api"
	"isobath/sound"
)

// kept returns arguments that share no memory with others, each list of which is
// followed by what does not belong to it.
func kept(a arguments) arguments {
	a.track = append(slices.Clone(a.track), span(7, -7))[:len(a.track)]
	a.choice = append(slices.Clone(a.choice), true)[:len(a.choice)]
	a.answers = append(slices.Clone(a.answers), 9)[:len(a.answers)]
	a.net.Stations = append(slices.Clone(a.net.Stations), point(7, 7))[:len(a.net.Stations)]
	a.a = append(slices.Clone(a.a), span(7, -7))[:len(a.a)]
	a.gauges = append(slices.Clone(a.gauges), one(span(7, -7)))[:len(a.gauges)]
	for i, g := range a.gauges {
		a.gauges[i].Level = append(slices.Clone(g.Level), span(7, -7))[:len(g.Level)]
	}
	a.coasts = append(slices.Clone(a.coasts), api.Coast{Need: 7})[:len(a.coasts)]
	return a
}

// beyond returns a list with the element behind it.
func beyond[T any](l []T) []T { return l[:len(l)+1] }

// equalArguments tells whether the lists of arguments that were kept are equal,
// with what is behind them.
func equalArguments(a, b arguments) bool {
	levels := func(x, y api.Gauge) bool { return slices.Equal(beyond(x.Level), beyond(y.Level)) }
	return slices.Equal(beyond(a.track), beyond(b.track)) && slices.Equal(beyond(a.choice), beyond(b.choice)) &&
		slices.Equal(beyond(a.answers), beyond(b.answers)) && slices.Equal(beyond(a.net.Stations), beyond(b.net.Stations)) &&
		slices.Equal(beyond(a.a), beyond(b.a)) && slices.EqualFunc(a.gauges, b.gauges, levels) && slices.Equal(beyond(a.coasts), beyond(b.coasts))
}

// R5: no argument is changed, also where it is a part of a longer list.
func TestArgumentsAreKept(t *testing.T) {
	for _, original := range []arguments{good(), torn()} {
		for _, f := range calls() {
			a, b := kept(original), kept(original)
			f.do(a)
			if !equalArguments(a, b) {
				t.Error(f.name, a, b)
			}
		}
	}
}

// again calls a function twice, and looks whether the second result is as
// wanted after the first one was cleared.
func again[T comparable](t *testing.T, name string, f func() ([]T, api.Errno), want []T) {
	t.Helper()
	for range 3 {
		first, e := f()
		equal(t, name, first, e, want, api.OK)
		second, e := f()
		clear(first)
		equal(t, name, second, e, want, api.OK)
	}
}

// R5 and R10: results share no memory with arguments, or with other results;
// equal calls return equal results.
func TestResultsAreNew(t *testing.T) {
	a, b := good(), good()
	a, b = kept(a), kept(b)
	again(t, "Loud", func() ([]api.Answer, api.Errno) { return sound.Loud(a.track, a.h) }, []api.Answer{no, open})
	again(t, "Fewest", func() ([]bool, api.Errno) { return sound.Fewest(a.answers, 2) }, []bool{true, false, false})
	again(t, "Most", func() ([]bool, api.Errno) { return sound.Most(a.answers, 2) }, []bool{true, true, false})
	again(t, "Region", func() ([]api.Box, api.Errno) { return sound.Region(a.net, a.a, a.box, 0) }, []api.Box{a.box})
	again(t, "Region", func() ([]api.Box, api.Errno) { return sound.Region(a.net, a.a, a.box, 5) }, regionOf(a.net, a.a, a.box, 5))
	var warnings []api.Warning
	for _, c := range a.coasts {
		warnings = append(warnings, warningOf(a.net, a.box, a.origin, a.at, c))
	}
	again(t, "Warn", func() ([]api.Warning, api.Errno) { return sound.Warn(a.net, a.box, a.origin, a.at, a.coasts) }, warnings)
	if !equalArguments(a, b) {
		t.Error(a, b)
	}
}

// R10, for P7.2: of several choices always the same one is returned.
func TestChoicesAgain(t *testing.T) {
	r := rand.New(rand.NewSource(20))
	for range 200 {
		l, n := someAnswers(r, r.Intn(40)), 1+r.Intn(4)
		few, _ := sound.Fewest(l, n)
		many, _ := sound.Most(l, n)
		sound.Most(someAnswers(r, 40), 3)
		x, e := sound.Fewest(slices.Clone(l), n)
		equal(t, l, x, e, few, api.OK)
		x, e = sound.Most(slices.Clone(l), n)
		equal(t, l, x, e, many, api.OK)
	}
}

// R3: nil and empty lists are the same.
func TestNilAndEmpty(t *testing.T) {
	a, b := good(), good()
	a.track, a.choice, a.answers, a.net.Stations, a.a, a.coasts = nil, nil, nil, nil, nil, nil
	b.track, b.choice, b.answers, b.net.Stations, b.a, b.coasts = []api.Span{}, []bool{}, []api.Answer{}, []api.Box{}, []api.Span{}, []api.Coast{}
	a.gauges, b.gauges = []api.Gauge{{}, {}}, []api.Gauge{{}, {Level: []api.Span{}}}
	for range 2 {
		for _, f := range calls() {
			zero, e := f.do(a)
			if zeroOther, other := f.do(b); e != other || !zero || !zeroOther {
				t.Error(f.name, e, other)
			}
		}
		a.gauges, b.gauges = nil, []api.Gauge{}
	}
}

// R5 and R10: nothing is kept of lists that are changed after a call.
func TestNothingIsKept(t *testing.T) {
	r := rand.New(rand.NewSource(21))
	n, a := example(), exampleArrivals()
	for range 500 {
		n.Speed = someSpeed(r)
		for i := range n.Stations {
			n.Stations[i], a[i] = someBox(r, 1000, 100), someSpan(r, 1000, 2000)
		}
		area := someBox(r, 1000, 1000)
		l, e := sound.Region(n, a, area, 3)
		equal(t, area, l, e, regionOf(n, a, area, 3), api.OK)
	}
}

// wild returns a number that may be anything.
func wild(r *rand.Rand) int64 {
	limits := []int64{0, 1, 5, 6, 8, 16, 17, 256, 257, 20000, 20001, 1 << 24, 1<<24 + 1, place, place + 1, most, most + 1, instant, instant + 1}
	switch r.Intn(5) {
	case 0:
		return int64(r.Uint64())
	case 1:
		l := wildNumbers()
		return l[r.Intn(len(l))]
	case 2:
		return -limits[r.Intn(len(limits))]
	case 3:
		return limits[r.Intn(len(limits))]
	}
	return r.Int63n(9) - 4
}

// wildArguments returns arguments of which some numbers may be anything.
func wildArguments(r *rand.Rand) arguments {
	a := kept([]arguments{good(), torn()}[r.Intn(2)])
	a.length, a.i, a.k, a.depth, a.sample = int(wild(r)), r.Intn(5)-1, r.Intn(5)-1, r.Intn(8)-1, r.Intn(5)-1
	spans := []*api.Span{
		&a.track[0], &a.track[1], &a.net.Speed, &a.net.Stations[0].X, &a.net.Stations[2].Y, &a.a[1], &a.box.X, &a.box.Y,
		&a.gauges[0].Level[2], &a.gauges[1].Level[0], &a.origin, &a.coasts[1].At.X,
	}
	numbers := []*int64{&a.h, &a.at, &a.rule.Height, &a.coasts[0].Need}
	indexes := []*int{&a.length, &a.i, &a.k, &a.depth, &a.sample, &a.rule.Run, &a.rule.Gauges}
	for range 1 + r.Intn(4) {
		x, y := wild(r), wild(r)
		*spans[r.Intn(len(spans))] = []api.Span{span(x, y), span(min(x, y), max(x, y)), exactly(x)}[r.Intn(3)]
		if r.Intn(2) == 0 {
			*numbers[r.Intn(len(numbers))] = wild(r)
		}
		if r.Intn(2) == 0 {
			*indexes[r.Intn(len(indexes))] = int(wild(r))
		}
	}
	if r.Intn(4) == 0 {
		a.answers[r.Intn(3)] = api.Answer(wild(r))
	}
	return a
}

// P1 and R2: every function ends for any numbers, and with an error all other
// results are zero values.
func TestAnyNumbers(t *testing.T) {
	r := rand.New(rand.NewSource(22))
	fine := map[string]int{}
	for range 20000 {
		a := wildArguments(r)
		for _, f := range calls() {
			zero, e := f.do(a)
			if e != api.OK && !zero || e < api.OK || e > api.ErrEqual {
				t.Fatal(f.name, a, e)
			}
			if e == api.OK {
				fine[f.name]++
			}
		}
		if e := sound.CheckNet(a.net); (e == api.OK) != validNet(a.net) {
			t.Fatal(a.net, e)
		}
	}
	for _, f := range calls() {
		if fine[f.name] < 200 {
			t.Error(f.name, fine[f.name])
		}
	}
}

// validNet tells whether a net of three stations is valid by the definition.
func validNet(n api.Net) bool {
	for _, b := range n.Stations {
		for _, a := range []api.Span{b.X, b.Y} {
			if a.Lo < -place || a.Lo > a.Hi || a.Hi > place {
				return false
			}
		}
	}
	return 1 <= n.Speed.Lo && n.Speed.Lo <= n.Speed.Hi && n.Speed.Hi <= 20000
}

// P1: all that can be asked at once, at the limits.
func TestAtTheLimits(t *testing.T) {
	n := api.Net{Stations: slices.Repeat([]api.Box{box(-place, place, -place, place)}, 8), Speed: span(1, 20000)}
	area := box(-place, place, -place, place)
	l, e := sound.Region(n, always(8), area, 5)
	equal(t, "Region", l, e, regionOf(n, always(8), area, 5), api.OK)
	if len(l) != 1024 {
		t.Error(len(l))
	}
	track := slices.Repeat([]api.Span{span(-most, most)}, 256)
	certain, possible, e := sound.First(slices.Repeat([]api.Gauge{one(track...)}, 16), api.Rule{Height: most, Run: 128, Gauges: 16})
	same(t, "First", [2]int{certain, possible}, e, [2]int{}, api.ErrNone)
	x, e := sound.Raised(slices.Repeat([]api.Gauge{one(track...)}, 16), api.Rule{Height: 1, Run: 256, Gauges: 16}, 255)
	same(t, "Raised", x, e, open, api.OK)
	loud, e := sound.Loud(track, most)
	equal(t, "Loud", loud, e, slices.Repeat([]api.Answer{open}, 256), api.OK)
	c, e := sound.Count(loud, 1)
	same(t, "Count", c, e, span(0, 128), api.OK)
	if calls, e := sound.Calls(make([]bool, 256), math.MaxInt); calls != 0 || e != api.ErrRange {
		t.Error(calls, e)
	}
}
