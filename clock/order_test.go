package clock_test

import (
	"slices"
	"testing"

	"isobath/api"
	"isobath/clock"
)

// arguments are those of all functions.
type arguments struct {
	x              api.Exchange
	c, contrary    api.Clock
	l              []api.Clock
	rate, t, limit int64
	i, k           int
	s              api.Stamp
	stamps         []api.Stamp
	a, b           api.Span
	spans, common  []api.Span
}

// fault is a way in which arguments are not as they should be, and its error.
type fault struct {
	name string
	put  func(a *arguments)
	want api.Errno
}

// call is a function with the faults that it names, in its order. It tells
// whether all results but the error are zero values.
type call struct {
	name   string
	do     func(a arguments) (bool, api.Errno)
	faults []fault
}

// sound returns arguments for which all functions return OK.
func sound() arguments {
	s := api.Stamp{Clock: 1, At: 2000000}
	return arguments{
		x: example().Exchanges[0], c: example(), l: []api.Clock{example(), below(0, example()), below(0, example())},
		rate: 1000, t: 1030, limit: 14, i: 0, k: 1, s: s, stamps: []api.Stamp{s, {Clock: 2, At: 7}},
		a: span(1, 3), b: span(2, 4), spans: []api.Span{span(1, 3), span(2, 4), span(5, 6)},
		contrary: torn(), common: []api.Span{span(1, 3), span(2, 4)},
	}
}

// apart returns an exchange whose messages have no offset in common.
func apart() api.Exchange {
	return api.Exchange{Sent: 100, Heard: 600, Answered: 600, Back: 200, Forth: span(20, 50), Home: span(99, 99)}
}

// The faults of the arguments.
var (
	badExchange = fault{"exchange", func(a *arguments) { a.x.Sent = a.x.Back + 1 }, api.ErrArg}
	badRate     = fault{"rate", func(a *arguments) { a.rate = -1 }, api.ErrRange}
	noCommon    = fault{"no common part", func(a *arguments) { a.x = apart() }, api.ErrNone}

	noExchanges = fault{"no exchanges", func(a *arguments) { a.c.Exchanges, a.contrary.Exchanges = nil, nil }, api.ErrMany}
	badParent   = fault{"parent", func(a *arguments) { a.c.Parent, a.contrary.Parent = -2, -2 }, api.ErrArg}
	badClock    = fault{"clock", func(a *arguments) {
		a.c.Exchanges = append(slices.Clone(a.c.Exchanges), apart())
		a.contrary.Exchanges = append(slices.Clone(a.contrary.Exchanges), apart())
	}, api.ErrArg}
	badTime  = fault{"time", func(a *arguments) { a.t = -1 }, api.ErrRange}
	badLimit = fault{"limit", func(a *arguments) { a.limit = -1 }, api.ErrRange}
	tornOne  = fault{"torn", func(a *arguments) { a.c = torn() }, api.ErrNone}
	neverDue = fault{"never due", func(a *arguments) { a.limit, a.c.Rate = api.MaxValue, 0 }, api.ErrPlan}
	noPair   = fault{"no pair", func(a *arguments) { a.contrary.Exchanges = a.contrary.Exchanges[:min(1, len(a.contrary.Exchanges))] }, api.ErrNone}
	badIndex = fault{"index", func(a *arguments) { a.k = 99 }, api.ErrRange}
	samePair = fault{"same", func(a *arguments) { a.i = a.k }, api.ErrSum}

	noClocks   = fault{"no clocks", func(a *arguments) { a.l = nil }, api.ErrMany}
	emptyClock = fault{"an empty clock", func(a *arguments) { change(a, func(c *api.Clock) { c.Exchanges = nil }) }, api.ErrMany}
	badClocks  = fault{"a bad clock", func(a *arguments) {
		change(a, func(c *api.Clock) { c.Exchanges = append(slices.Clone(c.Exchanges), apart()) })
	}, api.ErrArg}
	astray     = fault{"astray", func(a *arguments) { change(a, func(c *api.Clock) { c.Parent = 2 }) }, api.ErrArg}
	tornClock  = fault{"a torn clock", func(a *arguments) { change(a, func(c *api.Clock) { c.Exchanges = torn().Exchanges }) }, api.ErrNone}
	badStamp   = fault{"stamp", func(a *arguments) { a.s.Clock = 3 }, api.ErrRange}
	manyStamps = fault{"many stamps", func(a *arguments) { a.stamps = append(a.stamps, slices.Repeat(a.stamps, 64)...) }, api.ErrMany}
	badStamps  = fault{"stamps", func(a *arguments) { a.stamps = append(slices.Clone(a.stamps), api.Stamp{At: -1}) }, api.ErrRange}

	badFirst   = fault{"first span", func(a *arguments) { a.a = span(1, 0) }, api.ErrArg}
	badSecond  = fault{"second span", func(a *arguments) { a.b = span(1, 0) }, api.ErrArg}
	manySpans  = fault{"many spans", func(a *arguments) { a.spans = append(a.spans, slices.Repeat(a.spans, 43)...) }, api.ErrMany}
	badSpan    = fault{"span", func(a *arguments) { a.spans = append(slices.Clone(a.spans), span(1, 0)) }, api.ErrArg}
	manyCommon = fault{"many spans", func(a *arguments) { a.common = append(a.common, slices.Repeat(a.common, 64)...) }, api.ErrMany}
	badCommon  = fault{"span", func(a *arguments) { a.common = append(slices.Clone(a.common), span(1, 0)) }, api.ErrArg}
	apartSpans = fault{"apart", func(a *arguments) { a.common = append(slices.Clone(a.common), span(9, 9)) }, api.ErrNone}
)

// change changes the second clock of a house, if there is one.
func change(a *arguments, put func(c *api.Clock)) {
	if len(a.l) > 1 {
		a.l = slices.Clone(a.l)
		put(&a.l[1])
	}
}

// ofClock are the faults of a clock, and those that follow.
func ofClock(more ...fault) []fault {
	return append([]fault{noExchanges, badParent, badClock}, more...)
}

// ofHouse are the faults of a house, and those that follow.
func ofHouse(more ...fault) []fault {
	return append([]fault{noClocks, emptyClock, badClocks, astray, tornClock}, more...)
}

// clockCalls returns the functions of exchanges and single clocks.
func clockCalls() []call {
	return []call{
		{"CheckExchange", func(a arguments) (bool, api.Errno) { return true, clock.CheckExchange(a.x) }, []fault{badExchange}},
		{"Offset", func(a arguments) (bool, api.Errno) { return ofOne(clock.Offset(a.x, a.rate)) }, []fault{badExchange, badRate, noCommon}},
		{"CheckClock", func(a arguments) (bool, api.Errno) { return true, clock.CheckClock(a.c) }, ofClock()},
		{"At", func(a arguments) (bool, api.Errno) { return ofOne(clock.At(a.c, a.t)) }, ofClock(badTime, tornOne)},
		{"Contradiction", func(a arguments) (bool, api.Errno) {
			i, k, e := clock.Contradiction(a.contrary)
			return i == 0 && k == 0, e
		}, ofClock(noPair)},
		{"CheckContradiction", func(a arguments) (bool, api.Errno) {
			return true, clock.CheckContradiction(a.contrary, a.i, a.k)
		}, ofClock(badIndex, samePair)},
		{"Due", func(a arguments) (bool, api.Errno) { return ofOne(clock.Due(a.c, a.limit)) }, ofClock(badLimit, tornOne, neverDue)},
	}
}

// houseCalls returns the functions of houses and events.
func houseCalls() []call {
	return []call{
		{"CheckHouse", func(a arguments) (bool, api.Errno) { return true, clock.CheckHouse(a.l) }, ofHouse()},
		{"Time", func(a arguments) (bool, api.Errno) { return ofOne(clock.Time(a.l, a.s)) }, ofHouse(badStamp)},
		{"Times", func(a arguments) (bool, api.Errno) { return ofList(clock.Times(a.l, a.stamps)) }, ofHouse(manyStamps, badStamps)},
		{"Before", func(a arguments) (bool, api.Errno) { return ofOne(clock.Before(a.a, a.b)) }, []fault{badFirst, badSecond}},
		{"Ranks", func(a arguments) (bool, api.Errno) { return ofList(clock.Ranks(a.spans)) }, []fault{manySpans, badSpan}},
		{"Common", func(a arguments) (bool, api.Errno) { return ofOne(clock.Common(a.common)) }, []fault{manyCommon, badCommon, apartSpans}},
	}
}

// ofList tells whether the list beside an error is empty.
func ofList[T any](l []T, e api.Errno) (bool, api.Errno) { return len(l) == 0, e }

// ofOne tells whether the value beside an error is its zero value.
func ofOne[T comparable](x T, e api.Errno) (bool, api.Errno) {
	var zero T
	return x == zero, e
}

// R1 and R2, for P5.1 to P5.6: of several errors the one that is named first is
// returned, and all other results are zero values.
func TestOrderOfErrors(t *testing.T) {
	for _, f := range append(clockCalls(), houseCalls()...) {
		if _, e := f.do(sound()); e != api.OK {
			t.Error(f.name, "returns", e)
		}
		for i, first := range f.faults {
			for _, second := range f.faults[i:] {
				a := sound()
				second.put(&a)
				first.put(&a)
				if zero, e := f.do(a); e != first.want || !zero {
					t.Error(f.name, "returns", e, zero, "for", first.name, "and", second.name)
				}
			}
		}
	}
}
