package voyage_test

import (
	"slices"
	"testing"

	"isobath/api"
	"isobath/voyage"
)

// arguments are those of all functions.
type arguments struct {
	problem
	j         api.Job
	order     []int
	starts    []int64
	from, now int64
	n, d      int64
}

// fault is a way in which arguments are not as they should be, and its error.
type fault struct {
	name string
	put  func(a *arguments)
	want api.Errno
}

// call is a function with the faults that it names, in its order. It tells
// whether all results but the error are zero values.
type call struct {
	name   string
	do     func(a arguments) (bool, api.Errno)
	faults []fault
}

// good returns arguments for which all functions return OK.
func good() arguments {
	p := example()
	return arguments{p, p.l[1], []int{0, 1}, []int64{100, 310}, 200, 120, 1, 2}
}

// The faults of the arguments.
var (
	manySites  = fault{"many sites", func(a *arguments) { a.c.Travel = append(near(22).Travel, a.c.Travel...) }, api.ErrMany}
	manyZones  = fault{"many zones", func(a *arguments) { a.c.Zones = append(a.c.Zones, make([]api.Span, 8)...) }, api.ErrMany}
	badTravel  = fault{"travel", func(a *arguments) { a.c.Travel[1][2]++; a.c.Travel[0][0] = 1 }, api.ErrArg}
	badZone    = fault{"zone", func(a *arguments) { a.c.Zones[0].Lo = -1 }, api.ErrArg}
	manyTeams  = fault{"many teams", func(a *arguments) { a.s.Teams = append(a.s.Teams, make([]int64, 7)...) }, api.ErrMany}
	badShip    = fault{"ship", func(a *arguments) { a.s.From = -1 }, api.ErrArg}
	manyJobs   = fault{"many jobs", func(a *arguments) { a.l = append(a.l, make([]api.Job, 30)...) }, api.ErrMany}
	manyWeeks  = fault{"many windows", func(a *arguments) { a.l[2].Weather, a.j.Weather = windows(17), windows(17) }, api.ErrMany}
	badJob     = fault{"job", func(a *arguments) { a.l[0].Value, a.j.Value = -1, -1 }, api.ErrArg}
	badFrom    = fault{"from", func(a *arguments) { a.from = -1 }, api.ErrRange}
	noFit      = fault{"no fit", func(a *arguments) { a.from = 401 }, api.ErrNone}
	longOrder  = fault{"long order", func(a *arguments) { a.order = append(slices.Clone(a.order), make([]int, 31)...) }, api.ErrMany}
	badOrder   = fault{"order", func(a *arguments) { a.order = append(slices.Clone(a.order), 40) }, api.ErrRange}
	twice      = fault{"twice", func(a *arguments) { a.order = append(slices.Clone(a.order), 1) }, api.ErrHave}
	fewStarts  = fault{"few starts", func(a *arguments) { a.starts = append(slices.Clone(a.starts), 1) }, api.ErrEqual}
	noWire     = fault{"no wire", func(a *arguments) { a.s.Wire = 39 }, api.ErrLimit}
	noWeather  = fault{"no weather", func(a *arguments) { a.l[1].Weather = nil }, api.ErrNone}
	short      = fault{"short", func(a *arguments) { a.s.End = 99 }, api.ErrLate}
	noStart    = fault{"no start", func(a *arguments) { a.starts = append([]int64{}, a.starts[0], 401) }, api.ErrRule}
	early      = fault{"early", func(a *arguments) { a.starts = append([]int64{99}, a.starts[1:]...) }, api.ErrLate}
	notHome    = fault{"not home", func(a *arguments) { a.s.End = 109 }, api.ErrDue}
	manyExact  = fault{"many jobs for Best", func(a *arguments) { a.l = append(a.l, slices.Repeat(example().l[:1], 8)...) }, api.ErrMany}
	mustAll    = fault{"must", func(a *arguments) { a.l[0].Must, a.l[0].Weight = true, 11 }, api.ErrPlan}
	badN       = fault{"n", func(a *arguments) { a.n = -1 }, api.ErrRange}
	badD       = fault{"d", func(a *arguments) { a.d = 0 }, api.ErrRange}
	badNow     = fault{"now", func(a *arguments) { a.now = -1 }, api.ErrRange}
	ofChart    = []fault{manySites, manyZones, badTravel, badZone}
	ofShip     = append(slices.Clone(ofChart), manyTeams, badShip)
	ofJobs     = append(slices.Clone(ofShip), manyJobs, manyWeeks, badJob)
	ofJob      = append(slices.Clone(ofShip), manyWeeks, badJob)
	ofOrder    = append(slices.Clone(ofJobs), longOrder, badOrder, twice)
	ofPossible = append(slices.Clone(ofOrder), noWire, noWeather, short)
)

// ofOne tells whether the value beside an error is its zero value.
func ofOne[T comparable](x T, e api.Errno) (bool, api.Errno) {
	var zero T
	return x == zero, e
}

// calls returns all functions. Faults that change the same argument in different
// ways are not put together.
func calls() []call {
	return []call{
		{"CheckChart", func(a arguments) (bool, api.Errno) { return true, voyage.CheckChart(a.c) }, ofChart},
		{"CheckShip", func(a arguments) (bool, api.Errno) { return true, voyage.CheckShip(a.c, a.s) }, ofShip},
		{"CheckJobs", func(a arguments) (bool, api.Errno) { return true, voyage.CheckJobs(a.c, a.s, a.l) }, ofJobs},
		{"Fit", func(a arguments) (bool, api.Errno) { return ofOne(voyage.Fit(a.c, a.s, a.j, a.from)) }, append(slices.Clone(ofJob), badFrom, noFit)},
		{"Times", func(a arguments) (bool, api.Errno) {
			l, home, e := voyage.Times(a.c, a.s, a.l, a.order)
			return len(l) == 0 && home == 0, e
		}, ofPossible},
		{"CheckStarts", func(a arguments) (bool, api.Errno) {
			k, e := voyage.CheckStarts(a.c, a.s, a.l, a.order, a.starts)
			position := e == api.ErrRule && k == 1 || e == api.ErrLate && k == 0 || e == api.ErrDue && k == 2
			return k == 0 || position, e
		}, append(slices.Clone(ofOrder), fewStarts, noWire, noStart, early, notHome)},
		{"Value", func(a arguments) (bool, api.Errno) { return ofOne(voyage.Value(a.c, a.s, a.l, a.order)) }, ofOrder},
		{"Best", func(a arguments) (bool, api.Errno) {
			l, value, e := voyage.Best(a.c, a.s, a.l)
			return len(l) == 0 && value == 0, e
		}, append(slices.Clone(ofJobs), manyExact, mustAll)},
		{"Extend", func(a arguments) (bool, api.Errno) {
			l, e := voyage.Extend(a.c, a.s, a.l, a.order)
			return len(l) == 0, e
		}, ofPossible},
		{"Bound", func(a arguments) (bool, api.Errno) { return ofOne(voyage.Bound(a.c, a.s, a.l, a.n, a.d)) }, append(slices.Clone(ofJobs), badN, badD)},
		{"Rate", func(a arguments) (bool, api.Errno) {
			n, d, bound, e := voyage.Rate(a.c, a.s, a.l)
			return n == 0 && d == 0 && bound == 0, e
		}, ofJobs},
		{"Gap", func(a arguments) (bool, api.Errno) { return ofOne(voyage.Gap(a.c, a.s, a.l, a.order)) }, ofPossible},
		{"Rest", func(a arguments) (bool, api.Errno) {
			n, s, e := voyage.Rest(a.c, a.s, a.l, a.order, a.now)
			zero := s.From == 0 && s.Home == 0 && s.Start == 0 && s.End == 0 && s.Winch == 0 && s.Wire == 0 && s.Berths == 0
			return n == 0 && zero && len(s.Teams) == 0, e
		}, append(slices.Clone(ofPossible), badNow)},
	}
}

// R1 and R2, for P9.1 to P9.8: of several errors the one that is named first is
// returned, and all other results are zero values.
func TestOrderOfErrors(t *testing.T) {
	for _, f := range calls() {
		if _, e := f.do(good()); e != api.OK {
			t.Error(f.name, "returns", e)
		}
		for i, first := range f.faults {
			for _, second := range f.faults[i:] {
				a := good()
				second.put(&a)
				first.put(&a)
				if zero, e := f.do(a); e != first.want || !zero {
					t.Error(f.name, "returns", e, zero, "for", first.name, "and", second.name)
				}
			}
		}
	}
}
