package sensor_test

import (
	"slices"
	"testing"

	"isobath/api"
	"isobath/sensor"
)

// arguments are those of all functions.
type arguments struct {
	s        api.Sensor
	l        []api.Sample
	c, d     []int
	t, limit int64
	i        int
}

// fault is a way in which arguments are not as they should be, and its error.
type fault struct {
	name string
	put  func(a *arguments)
	want api.Errno
}

// call is a function with the faults that it names, in its order. It tells
// whether all results but the error are zero values.
type call struct {
	name   string
	do     func(a arguments) (bool, api.Errno)
	faults []fault
}

// sound returns arguments for which all functions return OK.
func sound() arguments {
	torn := sample(5000, 500, 510)
	torn.Near = []api.Span{span(0, 1)}
	return arguments{
		s: example(), l: append(exampleSamples(), torn), c: []int{1, 3, 4}, d: []int{1, 2}, t: 1440, limit: 500, i: 1,
	}
}

// The faults of the arguments.
var (
	manyEvents  = fault{"many events", func(a *arguments) { a.s.Events = append(spaced(65), a.s.Events...) }, api.ErrMany}
	badSensor   = fault{"sensor", func(a *arguments) { a.s.Drift = -1 }, api.ErrArg}
	manySamples = fault{"many samples", func(a *arguments) { a.l = append(row(65), a.l...) }, api.ErrMany}
	badSamples  = fault{"samples", func(a *arguments) { a.l = append(slices.Clone(a.l), api.Sample{At: -1}) }, api.ErrArg}
	manySteps   = fault{"many steps", func(a *arguments) { a.c = append(make([]int, 9), a.c...) }, api.ErrMany}
	badChain    = fault{"chain", func(a *arguments) { a.c = append(slices.Clone(a.c), 0) }, api.ErrArg}
	manyOther   = fault{"many steps of the other chain", func(a *arguments) { a.d = append(make([]int, 9), a.d...) }, api.ErrMany}
	badOther    = fault{"the other chain", func(a *arguments) { a.d = append(slices.Clone(a.d), 5) }, api.ErrArg}
	badTime     = fault{"time", func(a *arguments) { a.t = -1 }, api.ErrRange}
	badIndex    = fault{"index", func(a *arguments) { a.i = 99 }, api.ErrRange}
	badLimit    = fault{"limit", func(a *arguments) { a.limit = most + 1 }, api.ErrRange}
	noEvents    = fault{"no events", func(a *arguments) { a.s.Events = nil }, api.ErrNone}
	tornOffset  = fault{"torn offset", func(a *arguments) { a.s.Events = []api.Event{check(0, 0, 0), check(1, 90, 90)} }, api.ErrSum}
	noneEmpty   = fault{"none empty", func(a *arguments) { a.l = a.l[:min(2, len(a.l))] }, api.ErrNone}
)

// ofSamples are the faults of a sensor and samples, and those that follow.
func ofSamples(more ...fault) []fault {
	return append([]fault{manyEvents, badSensor, manySamples, badSamples}, more...)
}

// calls returns all functions.
func calls() []call {
	return []call{
		{"Check", func(a arguments) (bool, api.Errno) { return true, sensor.Check(a.s) }, []fault{manyEvents, badSensor}},
		{"CheckSamples", func(a arguments) (bool, api.Errno) { return true, sensor.CheckSamples(a.l) }, []fault{manySamples, badSamples}},
		{"CheckChain", func(a arguments) (bool, api.Errno) { return true, sensor.CheckChain(a.c) }, []fault{manySteps, badChain}},
		{"Counting", func(a arguments) (bool, api.Errno) { return ofList(sensor.Counting(a.s, a.t)) }, []fault{manyEvents, badSensor, badTime}},
		{"Offset", func(a arguments) (bool, api.Errno) {
			o, e := sensor.Offset(a.s, a.t)
			return o == api.Span{}, e
		}, []fault{manyEvents, badSensor, badTime}},
		{"Constraints", func(a arguments) (bool, api.Errno) { return ofList(sensor.Constraints(a.s, a.l, a.c, a.i)) },
			ofSamples(manySteps, badChain, badIndex)},
		{"Process", func(a arguments) (bool, api.Errno) { return ofList(sensor.Process(a.s, a.l, a.c)) },
			ofSamples(manySteps, badChain)},
		{"Above", func(a arguments) (bool, api.Errno) { return ofList(sensor.Above(a.s, a.l, a.c, a.limit)) },
			ofSamples(manySteps, badChain, badLimit)},
		{"Changed", func(a arguments) (bool, api.Errno) { return ofList(sensor.Changed(a.s, a.l, a.c, a.d)) },
			ofSamples(manySteps, badChain, manyOther, badOther)},
		{"Contradict", func(a arguments) (bool, api.Errno) {
			i, lo, hi, e := sensor.Contradict(a.s, a.l, a.c)
			return i == 0 && lo == api.Cause{} && hi == api.Cause{}, e
		}, ofSamples(manySteps, badChain, noneEmpty)},
	}
}

// ofList tells whether the list beside an error is empty.
func ofList[T any](l []T, e api.Errno) (bool, api.Errno) { return len(l) == 0, e }

// agrees tells what a function returns for arguments with one or two faults.
func agrees(t *testing.T, f call, first, second fault) {
	t.Helper()
	a := sound()
	second.put(&a)
	first.put(&a)
	if zero, e := f.do(a); e != first.want || !zero {
		t.Error(f.name, "returns", e, zero, "for", first.name, "and", second.name)
	}
}

// R1 and R2, for P6.1 to P6.6: of several errors the one that is named first is
// returned, and all other results are zero values.
func TestOrderOfErrors(t *testing.T) {
	for _, f := range calls() {
		if _, e := f.do(sound()); e != api.OK {
			t.Error(f.name, "returns", e)
		}
		for i, first := range f.faults {
			for _, second := range f.faults[i:] {
				agrees(t, f, first, second)
			}
		}
	}
}

// R1 and R2, for P6.2: whether the offset is known, and empty, comes last.
func TestOrderOfErrorsOfOffset(t *testing.T) {
	for _, f := range calls() {
		if f.name != "Offset" {
			continue
		}
		for _, last := range []fault{noEvents, tornOffset} {
			agrees(t, f, last, last)
			agrees(t, f, badTime, last)
			agrees(t, f, badSensor, last)
		}
	}
}
