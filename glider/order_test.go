package glider_test

import (
	"slices"
	"testing"

	"isobath/api"
	"isobath/glider"
)

// arguments are those of all functions.
type arguments struct {
	trial
	course   api.Course
	layer    int
	from, to int64
	boxes    []api.Box
	runs     [][]api.Box
	dives    int
}

// fault is a way in which arguments are not as they should be, and its error.
type fault struct {
	name string
	put  func(a *arguments)
	want api.Errno
}

// call is a function with the faults that it names, in its order. It tells
// whether all results but the error are zero values.
type call struct {
	name   string
	do     func(a arguments) (bool, api.Errno)
	faults []fault
}

// sound returns arguments for which all functions return OK.
func sound() arguments {
	a := arguments{to: 1, dives: 1}
	a.s, a.v = example()
	a.b, a.energy, a.plan, a.p = at(2000, 2000), span(300, 310), headings(2), examplePickup()
	a.boxes = []api.Box{area(1600, 2400, 1700, 2300)}
	a.runs = [][]api.Box{{at(2000, 2000)}}
	return a
}

// The faults of the arguments.
var (
	badSea     = fault{"sea", func(a *arguments) { a.s.Cell = 99 }, api.ErrArg}
	badVehicle = fault{"vehicle", func(a *arguments) { a.v.Reserve = -1 }, api.ErrArg}
	badBox     = fault{"box", func(a *arguments) { a.b.Y = span(1, 0) }, api.ErrArg}
	badTime    = fault{"time", func(a *arguments) { a.t = -1 }, api.ErrRange}
	lateTime   = fault{"late time", func(a *arguments) { a.t = api.MaxValue + 1 }, api.ErrRange}
	badEnergy  = fault{"energy", func(a *arguments) { a.energy = span(-1, 1) }, api.ErrArg}
	manyDives  = fault{"many courses", func(a *arguments) { a.plan = slices.Repeat(headings(9), 65) }, api.ErrMany}
	badPlan    = fault{"plan", func(a *arguments) { a.plan = headings(2, 9) }, api.ErrArg}
	badCourse  = fault{"course", func(a *arguments) { a.course.Layer = 1 }, api.ErrArg}
	badPickup  = fault{"pickup", func(a *arguments) { a.p.From = a.p.To + 1 }, api.ErrArg}
	manyBoxes  = fault{"many boxes", func(a *arguments) { a.boxes = make([]api.Box, 65) }, api.ErrMany}
	badList    = fault{"boxes", func(a *arguments) { a.boxes = []api.Box{{}, {X: span(1, 0)}} }, api.ErrArg}
	noDives    = fault{"dives", func(a *arguments) { a.dives = -1 }, api.ErrRange}
	tooLate    = fault{"too late", func(a *arguments) { a.t = 9001 }, api.ErrNone}
	shores     = fault{"shores", func(a *arguments) { a.s.Shores = slices.Repeat([]bool{true}, 16) }, api.ErrRule}
	poor       = fault{"poor", func(a *arguments) { a.energy = span(0, 0) }, api.ErrLost}
)

// start are the faults of a sea, a vehicle, a box and a time.
func start(more ...fault) []fault {
	return append([]fault{badSea, badVehicle, badBox, badTime, lateTime}, more...)
}

// placeCalls returns the functions that ask where a vehicle is.
func placeCalls() []call {
	return []call{
		{"CheckSea", func(a arguments) (bool, api.Errno) { return true, glider.CheckSea(a.s) }, []fault{badSea}},
		{"CheckVehicle", func(a arguments) (bool, api.Errno) { return true, glider.CheckVehicle(a.v) }, []fault{badVehicle}},
		{"At", func(a arguments) (bool, api.Errno) {
			c, e := glider.At(a.s, a.b, a.layer, a.from, a.to)
			return c == api.Current{}, e
		}, []fault{
			badSea, badBox,
			{"layer", func(a *arguments) { a.layer = 1 }, api.ErrRange},
			{"from", func(a *arguments) { a.from = a.to }, api.ErrArg},
			{"to", func(a *arguments) { a.to = 10001 }, api.ErrNone},
			{"place", func(a *arguments) { a.b = at(-1, 0) }, api.ErrNone},
		}},
		{"Dive", func(a arguments) (bool, api.Errno) {
			b, e := glider.Dive(a.s, a.v, a.b, a.t, a.course)
			return b == api.Box{}, e
		}, start(badCourse, tooLate, shores)},
		{"Run", func(a arguments) (bool, api.Errno) {
			l, n, e := glider.Run(a.s, a.v, a.b, a.t, a.plan)
			return len(l) == 0 && n == 0, e
		}, start(manyDives, badPlan, tooLate, shores)},
		{"Reach", func(a arguments) (bool, api.Errno) {
			l, e := glider.Reach(a.s, a.v, a.b, a.t, a.dives)
			return len(l) == 0, e
		}, start(noDives, tooLate)},
		{"CheckReach", func(a arguments) (bool, api.Errno) {
			return true, glider.CheckReach(a.s, a.v, a.b, a.t, a.boxes)
		}, start(manyBoxes, badList, tooLate, fault{"sum", func(a *arguments) { a.boxes = []api.Box{at(2000, 2000)} }, api.ErrSum})},
		{"Visited", func(a arguments) (bool, api.Errno) {
			l, e := glider.Visited(a.s, a.runs)
			return len(l) == 0, e
		}, []fault{
			badSea,
			{"many runs", func(a *arguments) { a.runs = slices.Repeat([][]api.Box{{{X: span(1, 0)}}}, 9) }, api.ErrMany},
			{"many boxes", func(a *arguments) { a.runs = [][]api.Box{{{X: span(1, 0)}}, make([]api.Box, 65)} }, api.ErrMany},
			{"boxes", func(a *arguments) { a.runs = [][]api.Box{{}, {{X: span(1, 0)}}} }, api.ErrArg},
		}},
	}
}

// planCalls returns the functions that ask for a pickup, or an energy.
func planCalls() []call {
	return []call{
		{"Energy", func(a arguments) (bool, api.Errno) {
			l, n, e := glider.Energy(a.v, a.energy, a.plan)
			return len(l) == 0 && n == 0, e
		}, []fault{badVehicle, badEnergy, manyDives, badPlan, poor}},
		{"Lasts", func(a arguments) (bool, api.Errno) {
			n, e := glider.Lasts(a.v, a.energy)
			return n == 0, e
		}, []fault{badVehicle, badEnergy, poor, {"nothing", func(a *arguments) { a.v.Use, a.v.Drift = span(0, 0), span(0, 0) }, api.ErrOver}}},
		{"Fetched", func(a arguments) (bool, api.Errno) {
			x, e := glider.Fetched(a.v, a.t, a.boxes, a.p)
			return x == api.No, e
		}, []fault{badVehicle, badTime, lateTime, manyBoxes, badList, badPickup}},
		{"CheckPlan", func(a arguments) (bool, api.Errno) {
			return true, glider.CheckPlan(a.s, a.v, a.b, a.t, a.energy, a.plan, a.p)
		}, start(badEnergy, manyDives, badPlan, badPickup, tooLate, shores, poor,
			fault{"due", func(a *arguments) { a.plan = headings(0) }, api.ErrDue})},
		{"Best", func(a arguments) (bool, api.Errno) {
			l, n, e := glider.Best(a.s, a.v, a.b, a.t, a.energy, a.p, a.dives)
			return len(l) == 0 && n == 0, e
		}, start(badEnergy, badPickup, noDives,
			fault{"too many dives", func(a *arguments) { a.dives = 4 }, api.ErrRange},
			fault{"no plan", func(a *arguments) { a.p.Area = at(2000, 2000) }, api.ErrPlan})},
		{"Never", func(a arguments) (bool, api.Errno) {
			a.p.Area.X = span(2401, 2600)
			l, e := glider.Never(a.s, a.v, a.b, a.t, a.p, a.dives)
			return len(l) == 0, e
		}, start(badPickup, noDives, fault{"no dive", func(a *arguments) { a.dives = 0 }, api.ErrRange}, tooLate,
			fault{"it may be", func(a *arguments) { a.b.X.Hi = 2001 }, api.ErrPlan})},
	}
}

// R1 and R2, for P3.1 to P3.11: of several errors the one that is named first
// is returned, and all other results are zero values.
func TestOrderOfErrors(t *testing.T) {
	for _, f := range append(placeCalls(), planCalls()...) {
		if _, e := f.do(sound()); e != api.OK {
			t.Error(f.name, "returns", e)
		}
		for i, first := range f.faults {
			for _, second := range f.faults[i:] {
				a := sound()
				second.put(&a)
				first.put(&a)
				if zero, e := f.do(a); e != first.want || !zero {
					t.Error(f.name, "returns", e, zero, "for", first.name, "and", second.name)
				}
			}
		}
	}
}
