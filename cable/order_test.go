package cable_test

import (
	"slices"
	"testing"

	"isobath/api"
	"isobath/cable"
)

// arguments are those of all functions.
type arguments struct {
	c                         api.Cable
	k, fault                  int
	requests, grants, lengths []int64
	ranks, faults, stuck      []int
	margin                    int64
	m                         api.Measure
	measures                  []api.Measure
	place                     api.Span
}

// fault is a way in which arguments are not as they should be, and its error.
type fault struct {
	name string
	put  func(a *arguments)
	want api.Errno
}

// call is a function with the faults that it names, in its order. It tells
// whether all results but the error are zero values.
type call struct {
	name   string
	do     func(a arguments) (bool, api.Errno)
	faults []fault
}

// sound returns arguments for which all functions return OK.
func sound() arguments {
	m := ohms(span(1000, 1100), span(400, 500))
	return arguments{
		c: example(), k: 2, fault: 2, requests: []int64{0, 200, 300, 200}, grants: []int64{0, 0, 300, 200}, lengths: []int64{0, 2200, 500, 900},
		ranks: []int{0, 1, 2, 3}, faults: []int{2, 3}, stuck: []int{2}, margin: 20, m: m, measures: []api.Measure{m}, place: span(2100, 2300),
	}
}

// The faults of the arguments.
var (
	manyNodes    = fault{"many nodes", func(a *arguments) { a.c.Nodes = append(a.c.Nodes, bare(make([]int, 57)...).Nodes[1:]...) }, api.ErrMany}
	badSupply    = fault{"supply", func(a *arguments) { a.c.Supply.Lo = -1 }, api.ErrArg}
	badNode      = fault{"node", func(a *arguments) { a.c.Nodes[3].Parent = 3 }, api.ErrArg}
	noNode       = fault{"no node", func(a *arguments) { a.k = 4 }, api.ErrRange}
	fewRequests  = fault{"few requests", func(a *arguments) { a.requests = a.requests[:3] }, api.ErrEqual}
	fewRanks     = fault{"few ranks", func(a *arguments) { a.ranks = a.ranks[:3] }, api.ErrEqual}
	badRequest   = fault{"request", func(a *arguments) { a.requests[0] = -1 }, api.ErrRange}
	fewGrants    = fault{"few grants", func(a *arguments) { a.grants = a.grants[:3] }, api.ErrEqual}
	badGrant     = fault{"grant", func(a *arguments) { a.grants[0] = -1 }, api.ErrRange}
	manyStuck    = fault{"many stuck", func(a *arguments) { a.stuck = slices.Repeat([]int{3}, 17) }, api.ErrMany}
	badStuck     = fault{"stuck", func(a *arguments) { a.stuck = []int{2, 3} }, api.ErrArg}
	noSegment    = fault{"no segment", func(a *arguments) { a.fault = 0 }, api.ErrRange}
	noBreaker    = fault{"no breaker", func(a *arguments) { a.stuck = []int{1, 2} }, api.ErrNone}
	manyFaults   = fault{"many faults", func(a *arguments) { a.faults = make([]int, 61) }, api.ErrMany}
	badFault     = fault{"fault", func(a *arguments) { a.faults = []int{2, 0} }, api.ErrRange}
	badMargin    = fault{"margin", func(a *arguments) { a.margin = -1 }, api.ErrRange}
	badMeasure   = fault{"measure", func(a *arguments) { a.m.Kind = 0 }, api.ErrArg}
	overMeasure  = fault{"over", func(a *arguments) { a.m = ohms(exactly(1<<24), exactly(1)) }, api.ErrOver}
	noMeasures   = fault{"no measures", func(a *arguments) { a.measures = nil }, api.ErrNone}
	manyMeasures = fault{"many measures", func(a *arguments) { a.measures = make([]api.Measure, 33) }, api.ErrMany}
	badMeasures  = fault{"measures", func(a *arguments) { a.measures = append([]api.Measure{{}}, a.measures...) }, api.ErrArg}
	overMeasures = fault{"over", func(a *arguments) {
		a.measures = append([]api.Measure{ohms(exactly(1<<24), exactly(1))}, a.measures...)
	}, api.ErrOver}
	apart      = fault{"apart", func(a *arguments) { a.measures = append(a.measures, from(exactly(1))) }, api.ErrSum}
	fewLengths = fault{"few lengths", func(a *arguments) { a.lengths = a.lengths[:3] }, api.ErrEqual}
	badLength  = fault{"length", func(a *arguments) { a.lengths[0] = 1 }, api.ErrArg}
	badPlace   = fault{"place", func(a *arguments) { a.place = span(1, 0) }, api.ErrArg}
)

// ofCable are the faults of a cable, and those that follow.
func ofCable(more ...fault) []fault {
	return append([]fault{manyNodes, badSupply, badNode}, more...)
}

// powerCalls returns the functions that ask for paths, currents and shares.
func powerCalls() []call {
	return []call{
		{"Check", func(a arguments) (bool, api.Errno) { return true, cable.Check(a.c) }, ofCable()},
		{"Path", func(a arguments) (bool, api.Errno) { return ofList(cable.Path(a.c, a.k)) }, ofCable(noNode)},
		{"Subtree", func(a arguments) (bool, api.Errno) { return ofList(cable.Subtree(a.c, a.k)) }, ofCable(noNode)},
		{"Currents", func(a arguments) (bool, api.Errno) { return ofList(cable.Currents(a.c)) }, ofCable()},
		{"Voltages", func(a arguments) (bool, api.Errno) { return ofList(cable.Voltages(a.c)) }, ofCable()},
		{"Within", func(a arguments) (bool, api.Errno) { return ofList(cable.Within(a.c)) }, ofCable()},
		{"Fed", func(a arguments) (bool, api.Errno) { return ofList(cable.Fed(a.c)) }, ofCable()},
		{"Share", func(a arguments) (bool, api.Errno) { return ofList(cable.Share(a.c, a.requests, a.ranks)) }, ofCable(fewRequests, fewRanks, badRequest)},
		{"CheckShare", func(a arguments) (bool, api.Errno) { return ofOne(cable.CheckShare(a.c, a.grants)) }, ofCable(fewGrants, badGrant)},
	}
}

// faultCalls returns the functions that ask for breakers and places of faults.
func faultCalls() []call {
	return []call{
		{"Opens", func(a arguments) (bool, api.Errno) { return ofOne(cable.Opens(a.c, a.fault, a.stuck)) }, ofCable(manyStuck, badStuck, noSegment, noBreaker)},
		{"Lost", func(a arguments) (bool, api.Errno) { return ofList(cable.Lost(a.c, a.faults, a.stuck)) }, ofCable(manyStuck, badStuck, manyFaults, badFault)},
		{"Coordinated", func(a arguments) (bool, api.Errno) {
			k, j, e := cable.Coordinated(a.c, a.margin)
			return k == 0 && j == 0, e
		}, ofCable(badMargin)},
		{"Distance", func(a arguments) (bool, api.Errno) { return ofOne(cable.Distance(a.m)) }, []fault{badMeasure, overMeasure}},
		{"Locate", func(a arguments) (bool, api.Errno) { return ofOne(cable.Locate(a.measures)) }, []fault{noMeasures, manyMeasures, badMeasures, overMeasures, apart}},
		{"Segments", func(a arguments) (bool, api.Errno) {
			return ofList(cable.Segments(a.c, a.lengths, a.k, a.place))
		}, ofCable(fewLengths, noNode, badLength, badPlace)},
	}
}

// ofList tells whether the list beside an error is empty.
func ofList[T any](l []T, e api.Errno) (bool, api.Errno) { return len(l) == 0, e }

// ofOne tells whether the value beside an error is its zero value.
func ofOne[T comparable](x T, e api.Errno) (bool, api.Errno) {
	var zero T
	return x == zero, e
}

// R1 and R2, for P4.1 to P4.8: of several errors the one that is named first is
// returned, and all other results are zero values.
func TestOrderOfErrors(t *testing.T) {
	for _, f := range append(powerCalls(), faultCalls()...) {
		if _, e := f.do(sound()); e != api.OK {
			t.Error(f.name, "returns", e)
		}
		for i, first := range f.faults {
			for _, second := range f.faults[i:] {
				a := sound()
				second.put(&a)
				first.put(&a)
				if zero, e := f.do(a); e != first.want || !zero {
					t.Error(f.name, "returns", e, zero, "for", first.name, "and", second.name)
				}
			}
		}
	}
}
