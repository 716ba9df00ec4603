package sound_test

import (
	"slices"
	"testing"

	"isobath/api"
	"isobath/sound"
)

// arguments are those of all functions.
type arguments struct {
	track   []api.Span
	h       int64
	choice  []bool
	answers []api.Answer
	length  int
	net     api.Net
	a       []api.Span
	box     api.Box
	i, k    int
	depth   int
	gauges  []api.Gauge
	rule    api.Rule
	sample  int
	origin  api.Span
	at      int64
	coasts  []api.Coast
}

// fault is a way in which arguments are not as they should be, and its error.
type fault struct {
	name string
	put  func(a *arguments)
	want api.Errno
}

// call is a function with the faults that it names, in its order. It tells
// whether all results but the error are zero values.
type call struct {
	name   string
	do     func(a arguments) (bool, api.Errno)
	faults []fault
}

// good returns arguments for which all functions return OK, but those that say
// whether a box is excluded.
func good() arguments {
	return arguments{
		track: []api.Span{span(1, 2), span(3, 5)}, h: 4, choice: []bool{true, false}, answers: []api.Answer{yes, open, no}, length: 1,
		net: quick(), a: always(3), box: box(0, 100, 0, 50), i: 0, k: 1, depth: 2,
		gauges: exampleGauges(), rule: exampleRule(), sample: 2, origin: span(0, 1000), at: 5000, coasts: exampleCoasts(),
	}
}

// torn returns arguments with a box that is excluded.
func torn() arguments {
	a := good()
	a.net, a.a, a.box = example(), exampleArrivals(), point(3000, 4000)
	return a
}

// The faults of the arguments.
var (
	manySpans   = fault{"many spans", func(a *arguments) { a.track = append(make([]api.Span, 257), a.track...) }, api.ErrMany}
	badTrack    = fault{"track", func(a *arguments) { a.track = append(slices.Clone(a.track), span(2, 1)) }, api.ErrArg}
	badHeight   = fault{"threshold", func(a *arguments) { a.h = most + 1 }, api.ErrRange}
	manyBools   = fault{"many booleans", func(a *arguments) { a.choice = make([]bool, 257) }, api.ErrMany}
	manyAnswers = fault{"many answers", func(a *arguments) { a.answers = append(make([]api.Answer, 257), a.answers...) }, api.ErrMany}
	badAnswer   = fault{"answer", func(a *arguments) { a.answers = append(slices.Clone(a.answers), 3) }, api.ErrArg}
	badLength   = fault{"length", func(a *arguments) { a.length = 0 }, api.ErrRange}
	badNet      = fault{"net", func(a *arguments) { a.net.Speed = exactly(0) }, api.ErrArg}
	notAsMany   = fault{"not as many arrivals", func(a *arguments) { a.a = append(a.a[:0:0], append(a.a, span(2, 1))...) }, api.ErrEqual}
	badArrival  = fault{"arrival", func(a *arguments) { a.a = append([]api.Span{span(2, 1)}, a.a[1:]...) }, api.ErrArg}
	badBox      = fault{"box", func(a *arguments) { a.box.X = span(2, 1) }, api.ErrArg}
	badStation  = fault{"station", func(a *arguments) { a.i = 99 }, api.ErrRange}
	otherOne    = fault{"other station", func(a *arguments) { a.k = -1 }, api.ErrRange}
	badDepth    = fault{"depth", func(a *arguments) { a.depth = 6 }, api.ErrRange}
	noGauges    = fault{"no gauges", func(a *arguments) { a.gauges = nil }, api.ErrMany}
	manyGauges  = fault{"many gauges", func(a *arguments) { a.gauges = append(make([]api.Gauge, 17), a.gauges...) }, api.ErrMany}
	manySamples = fault{"many samples", func(a *arguments) { a.gauges = append(slices.Clone(a.gauges), one(make([]api.Span, 257)...)) }, api.ErrMany}
	notSame     = fault{"not the same length", func(a *arguments) { a.gauges = append(slices.Clone(a.gauges), one(span(2, 1))) }, api.ErrEqual}
	badLevel    = fault{"level", func(a *arguments) { a.gauges = append(exampleGauges(), one(span(0, 1), span(0, 1), span(2, 1))) }, api.ErrArg}
	badRule     = fault{"rule", func(a *arguments) { a.rule.Run = 0 }, api.ErrArg}
	badSample   = fault{"sample", func(a *arguments) { a.sample = 3 }, api.ErrRange}
	badOrigin   = fault{"origin", func(a *arguments) { a.origin = span(2, 1) }, api.ErrArg}
	badAlarm    = fault{"alarm", func(a *arguments) { a.at = instant + 1 }, api.ErrRange}
	manyCoasts  = fault{"many coasts", func(a *arguments) { a.coasts = append(make([]api.Coast, 17), a.coasts...) }, api.ErrMany}
	badCoast    = fault{"coast", func(a *arguments) { a.coasts = append(slices.Clone(a.coasts), api.Coast{Need: -1}) }, api.ErrArg}
)

// ofList tells whether the list beside an error is empty.
func ofList[T any](l []T, e api.Errno) (bool, api.Errno) { return len(l) == 0, e }

// ofOne tells whether the result beside an error is its zero value.
func ofOne[T comparable](x T, e api.Errno) (bool, api.Errno) {
	var zero T
	return x == zero, e
}

// ofTwo tells whether two numbers beside an error are 0.
func ofTwo(i, k int, e api.Errno) (bool, api.Errno) { return i == 0 && k == 0, e }

// callsOfCalls returns the functions of calls.
func callsOfCalls() []call {
	of := []fault{manyAnswers, badAnswer, badLength}
	return []call{
		{"Loud", func(a arguments) (bool, api.Errno) { return ofList(sound.Loud(a.track, a.h)) }, []fault{manySpans, badTrack, badHeight}},
		{"Calls", func(a arguments) (bool, api.Errno) { return ofOne(sound.Calls(a.choice, a.length)) }, []fault{manyBools, badLength}},
		{"Count", func(a arguments) (bool, api.Errno) { return ofOne(sound.Count(a.answers, a.length)) }, of},
		{"Fewest", func(a arguments) (bool, api.Errno) { return ofList(sound.Fewest(a.answers, a.length)) }, of},
		{"Most", func(a arguments) (bool, api.Errno) { return ofList(sound.Most(a.answers, a.length)) }, of},
	}
}

// callsOfNets returns the functions with a net.
func callsOfNets() []call {
	return []call{
		{"CheckNet", func(a arguments) (bool, api.Errno) { return true, sound.CheckNet(a.net) }, []fault{badNet}},
		{"Travel", func(a arguments) (bool, api.Errno) { return ofOne(sound.Travel(a.net, a.box, a.i)) }, []fault{badNet, badBox, badStation}},
		{"Origin", func(a arguments) (bool, api.Errno) { return ofOne(sound.Origin(a.net, a.a, a.box)) },
			[]fault{badNet, notAsMany, badArrival, badBox}},
		{"Excluded", func(a arguments) (bool, api.Errno) { return ofTwo(sound.Excluded(a.net, a.a, a.box)) },
			[]fault{badNet, notAsMany, badArrival, badBox}},
		{"CheckExcluded", func(a arguments) (bool, api.Errno) { return true, sound.CheckExcluded(a.net, a.a, a.box, a.i, a.k) },
			[]fault{badNet, notAsMany, badArrival, badBox, badStation, otherOne}},
		{"Region", func(a arguments) (bool, api.Errno) { return ofList(sound.Region(a.net, a.a, a.box, a.depth)) },
			[]fault{badNet, notAsMany, badArrival, badBox, badDepth}},
		{"Warn", func(a arguments) (bool, api.Errno) { return ofList(sound.Warn(a.net, a.box, a.origin, a.at, a.coasts)) },
			[]fault{badNet, badBox, badOrigin, badAlarm, manyCoasts, badCoast}},
	}
}

// callsOfAlarms returns the functions of alarms.
func callsOfAlarms() []call {
	of := []fault{manyGauges, manySamples, notSame, badLevel, badRule}
	return []call{
		{"Raised", func(a arguments) (bool, api.Errno) { return ofOne(sound.Raised(a.gauges, a.rule, a.sample)) }, append(slices.Clone(of), badSample)},
		{"First", func(a arguments) (bool, api.Errno) { return ofTwo(sound.First(a.gauges, a.rule)) }, of},
		{"Raised without gauges", func(a arguments) (bool, api.Errno) { return ofOne(sound.Raised(a.gauges, a.rule, a.sample)) }, []fault{noGauges, badRule, badSample}},
		{"First without gauges", func(a arguments) (bool, api.Errno) { return ofTwo(sound.First(a.gauges, a.rule)) }, []fault{noGauges, badRule}},
	}
}

// calls returns all functions.
func calls() []call { return slices.Concat(callsOfCalls(), callsOfNets(), callsOfAlarms()) }

// R1 and R2, for P7.1 to P7.8: of several errors the one that is named first is
// returned, and all other results are zero values.
func TestOrderOfErrors(t *testing.T) {
	for _, f := range calls() {
		for i, first := range f.faults {
			for _, second := range f.faults[i:] {
				for _, a := range []arguments{good(), torn()} {
					second.put(&a)
					first.put(&a)
					if zero, e := f.do(a); e != first.want || !zero {
						t.Error(f.name, "returns", e, zero, "for", first.name, "and", second.name)
					}
				}
			}
		}
	}
}

// R1, for P7.4, P7.5 and P7.7: what comes last is whether a box is excluded, or
// the alarm is raised for certain.
func TestLastErrors(t *testing.T) {
	low := good()
	low.rule.Gauges = 3
	for _, x := range []struct {
		name       string
		good, torn api.Errno
		low        api.Errno
	}{
		{"Origin", api.OK, api.ErrNone, api.OK},
		{"Excluded", api.ErrNone, api.OK, api.ErrNone},
		{"CheckExcluded", api.ErrSum, api.OK, api.ErrSum},
		{"First", api.OK, api.OK, api.ErrNone},
	} {
		for _, f := range calls() {
			if f.name != x.name {
				continue
			}
			for i, a := range []arguments{good(), torn(), low} {
				want := []api.Errno{x.good, x.torn, x.low}[i]
				if zero, e := f.do(a); e != want || want != api.OK && !zero {
					t.Error(f.name, i, e, zero)
				}
			}
		}
	}
	for _, f := range calls() {
		if _, e := f.do(good()); e != api.OK && f.name != "Excluded" && f.name != "CheckExcluded" {
			t.Error(f.name, e)
		}
	}
}
