package glider_test

import (
	"math"
	"math/rand"
	"slices"
	"testing"

	"isobath/api"
	"isobath/glider"
)

// P3.6: a dive counts if it ends from From to To; the box in which the run
// begins does not.
func TestFetchedInTime(t *testing.T) {
	v := api.Vehicle{Dive: 100}
	in, out, half := at(5, 5), at(50, 50), area(5, 50, 5, 5)
	for _, x := range []struct {
		name     string
		begin    int64
		boxes    []api.Box
		from, to int64
		want     api.Answer
	}{
		{"no box", 0, nil, 0, 1000, api.No},
		{"no box, empty", 0, []api.Box{}, 0, 1000, api.No},
		{"in time", 0, []api.Box{in}, 0, 1000, api.Yes},
		{"just in time", 0, []api.Box{in}, 100, 100, api.Yes},
		{"too late", 0, []api.Box{in}, 0, 99, api.No},
		{"too early", 0, []api.Box{in}, 101, 1000, api.No},
		{"before the first dive ends", 0, []api.Box{in}, 0, 0, api.No},
		{"begins later", 50, []api.Box{in}, 150, 150, api.Yes},
		{"the second", 0, []api.Box{out, in}, 200, 200, api.Yes},
		{"the first, out of two", 0, []api.Box{in, out}, 100, 200, api.Yes},
		{"the first is too early", 0, []api.Box{in, out}, 101, 200, api.No},
		{"the second is too late", 0, []api.Box{out, in}, 0, 199, api.No},
		{"it may be", 0, []api.Box{half}, 0, 1000, api.Open},
		{"it may be, twice", 0, []api.Box{half, half}, 0, 1000, api.Open},
		{"it may be, and it is not", 0, []api.Box{out, half, out}, 0, 1000, api.Open},
		{"it may be, and it is", 0, []api.Box{half, in, out}, 0, 1000, api.Yes},
		{"it may be, and it is too late", 0, []api.Box{half, in}, 0, 199, api.Open},
		{"the last time", api.MaxValue - 100, []api.Box{in}, api.MaxValue, api.MaxValue, api.Yes},
		{"later than all times", api.MaxValue - 99, []api.Box{in}, 0, api.MaxValue, api.No},
		{"the last begin", api.MaxValue, []api.Box{in}, 0, api.MaxValue, api.No},
	} {
		p := api.Pickup{Area: area(0, 10, 0, 10), From: x.from, To: x.to}
		if a, e := glider.Fetched(v, x.begin, x.boxes, p); e != api.OK || a != x.want {
			t.Error(x.name, a, e)
		}
	}
}

// P3.6: whether a box is in the area, along X and along Y.
func TestFetchedInArea(t *testing.T) {
	v := api.Vehicle{Dive: 100}
	spans := []struct {
		a  api.Span
		is api.Answer
	}{
		{span(10, 20), api.Yes}, {span(12, 12), api.Yes}, {span(9, 20), api.Open}, {span(10, 21), api.Open}, {span(0, 30), api.Open},
		{span(0, 10), api.Open}, {span(20, 25), api.Open}, {span(0, 9), api.No}, {span(21, 25), api.No},
	}
	p := api.Pickup{Area: area(10, 20, 10, 20), To: 1000}
	for _, x := range spans {
		for _, y := range spans {
			b := api.Box{X: x.a, Y: y.a}
			if a, e := glider.Fetched(v, 0, []api.Box{b}, p); e != api.OK || a != min(x.is, y.is) {
				t.Error(b, a, e)
			}
		}
	}
	const far = api.MaxPlace
	all := area(-far, far, -far, far)
	if a, e := glider.Fetched(v, 0, []api.Box{all}, api.Pickup{Area: all, To: api.MaxValue}); e != api.OK || a != api.Yes {
		t.Error(a, e)
	}
}

// P3.6: runs are fetched as the chapter defines it.
func TestFetchedTrials(t *testing.T) {
	answers := map[api.Answer]int{}
	trials(t, 4000, func(r *rand.Rand, x trial) {
		boxes, _, e := runOf(x.s, x.v, x.b, x.t, x.plan)
		if e != api.OK {
			return
		}
		a, e := glider.Fetched(x.v, x.t, boxes, x.p)
		if e != api.OK || a != fetchedOf(x.v, x.t, boxes, x.p) {
			t.Error(x, boxes, a, e)
		}
		answers[a]++
	})
	if answers[api.No] < 100 || answers[api.Open] < 100 || answers[api.Yes] < 20 {
		t.Error(answers)
	}
}

// P3.6: times, boxes and pickups that are not valid.
func TestFetchedErrors(t *testing.T) {
	_, v := example()
	p := examplePickup()
	good := slices.Repeat([]api.Box{at(2200, 2000)}, 65)
	try := func(from int64, boxes []api.Box, p api.Pickup, want api.Errno) {
		t.Helper()
		if a, e := glider.Fetched(v, from, boxes, p); a != api.No || e != want {
			t.Error(from, boxes, p, a, e)
		}
	}
	if a, e := glider.Fetched(v, 0, good[:64], p); a != api.Yes || e != api.OK {
		t.Error(a, e)
	}
	try(0, good, p, api.ErrMany)
	for _, b := range badBoxes() {
		try(0, []api.Box{b}, p, api.ErrArg)
		try(0, append(slices.Clone(good[:63]), b), p, api.ErrArg)
		try(0, append(slices.Clone(good[:64]), b), p, api.ErrMany)
		try(0, append([]api.Box{b}, good[:64]...), p, api.ErrMany)
	}
	for _, q := range badPickups() {
		try(0, good[:1], q, api.ErrArg)
		try(0, nil, q, api.ErrArg)
		try(0, good, q, api.ErrMany)
	}
	for _, from := range []int64{-1, api.MaxValue + 1, math.MinInt64, math.MaxInt64} {
		try(from, good[:1], p, api.ErrRange)
		try(from, good, p, api.ErrRange)
		try(from, nil, badPickups()[0], api.ErrRange)
	}
}

// P3.7: the plan of the chapter's example, and what makes it not good.
func TestCheckPlan(t *testing.T) {
	for name, x := range map[string]struct {
		spoil func(x *trial)
		want  api.Errno
	}{
		"good":   {func(x *trial) {}, api.OK},
		"longer": {func(x *trial) { x.plan = headings(2, 2, 2) }, api.OK},
		"two dives, in time": {func(x *trial) {
			x.plan = headings(8, 8, 2)
			x.p = api.Pickup{Area: area(2000, 2700, 0, 4000), To: 3000}
		}, api.OK},
		"at a shore that is not touched": {func(x *trial) { x.s.Shores[7], x.plan = true, headings(2, 2) }, api.OK},
		"another heading":                {func(x *trial) { x.plan = headings(0) }, api.ErrDue},
		"no dive":                        {func(x *trial) { x.plan, x.b = nil, at(2200, 2000) }, api.ErrDue},
		"only open":                      {func(x *trial) { x.p.Area.X.Hi = 2399 }, api.ErrDue},
		"just":                           {func(x *trial) { x.p.Area = area(2200, 2400, 2000, 2000) }, api.OK},
		"too early":                      {func(x *trial) { x.p.From = 1001 }, api.ErrDue},
		"too late":                       {func(x *trial) { x.p.To = 999 }, api.ErrDue},
		"just in time":                   {func(x *trial) { x.p.From, x.p.To = 1000, 1000 }, api.OK},
		"the least energy":               {func(x *trial) { x.energy = span(160, 160) }, api.OK},
		"too little energy":              {func(x *trial) { x.energy = span(159, 999) }, api.ErrLost},
		"lost after the pickup":          {func(x *trial) { x.plan, x.energy = headings(2, 2), span(219, 219) }, api.ErrLost},
		"lost, and not fetched":          {func(x *trial) { x.plan, x.energy = headings(0), span(0, 0) }, api.ErrLost},
		"not possible":                   {func(x *trial) { x.plan, x.energy = headings(2, 2, 2, 2, 2), span(0, 0) }, api.ErrNone},
		"not in the slots":               {func(x *trial) { x.t, x.energy = 9001, span(0, 0) }, api.ErrNone},
		"a shore":                        {func(x *trial) { x.s.Shores[5], x.energy = true, span(0, 0) }, api.ErrRule},
		"a shore that is far":            {func(x *trial) { x.s.Shores[3] = true }, api.OK},
		"a shore, too late":              {func(x *trial) { x.s.Shores[5], x.t = true, 9001 }, api.ErrNone},
		"unsafe after the pickup": {func(x *trial) {
			x.s.Shores[7], x.plan = true, headings(2, 2, 2)
		}, api.ErrRule},
	} {
		y := trial{b: at(2000, 2000), energy: span(300, 310), plan: headings(2), p: examplePickup()}
		y.s, y.v = example()
		x.spoil(&y)
		if e := glider.CheckPlan(y.s, y.v, y.b, y.t, y.energy, y.plan, y.p); e != x.want {
			t.Error(name, e)
		}
	}
}

// P3.7: plans are good as the chapter defines it.
func TestCheckPlanTrials(t *testing.T) {
	ends := map[api.Errno]int{}
	trials(t, 6000, func(r *rand.Rand, x trial) {
		want := planOf(x.s, x.v, x.b, x.t, x.energy, x.plan, x.p)
		if e := glider.CheckPlan(x.s, x.v, x.b, x.t, x.energy, x.plan, x.p); e != want {
			t.Error(x, e, "not", want)
		}
		ends[want]++
	})
	if ends[api.OK] < 10 || ends[api.ErrNone] < 100 || ends[api.ErrRule] < 100 || ends[api.ErrLost] < 100 || ends[api.ErrDue] < 100 {
		t.Error(ends)
	}
}

// P3.7: a plan of as many dives as there can be, and one that is longer.
func TestCheckPlanLong(t *testing.T) {
	s := still(4, 4, 1000, 100, 2, 1)
	v := api.Vehicle{Dive: 3}
	p := api.Pickup{Area: at(2000, 2000), From: 192, To: 192}
	plan := slices.Repeat(headings(8), 65)
	if e := glider.CheckPlan(s, v, at(2000, 2000), 0, span(0, 0), plan[:64], p); e != api.OK {
		t.Error(e)
	}
	if e := glider.CheckPlan(s, v, at(2000, 2000), 0, span(0, 0), plan, p); e != api.ErrMany {
		t.Error(e)
	}
	if e := glider.CheckPlan(s, v, at(2000, 2000), 0, span(0, 0), plan[:63], p); e != api.ErrDue {
		t.Error(e)
	}
}

// P3.14: a vehicle whose plan is good keeps its reserve, whatever its dives
// take, and is in the area in time, whatever the currents do.
func TestGoodPlanIsKept(t *testing.T) {
	good := 0
	trials(t, 3000, func(r *rand.Rand, x trial) {
		plan, _, e := glider.Best(x.s, x.v, x.b, x.t, x.energy, x.p, 2)
		if e != api.OK || glider.CheckPlan(x.s, x.v, x.b, x.t, x.energy, plan, x.p) != api.OK {
			return
		}
		good++
		const m = 1000000
		px := x.b.X.Lo*m + r.Int63n((x.b.X.Hi-x.b.X.Lo)*m+1)
		py := x.b.Y.Lo*m + r.Int63n((x.b.Y.Hi-x.b.Y.Lo)*m+1)
		now, left, there := x.t, x.energy.Lo, false
		for _, c := range plan {
			px, py = sail(r, x.s, x.v, px, py, now, c)
			now += x.v.Dive
			a := x.v.Use
			if c.Heading == 8 {
				a = x.v.Drift
			}
			left -= a.Lo + r.Int63n(a.Hi-a.Lo+1)
			there = there || x.p.From <= now && now <= x.p.To && holds(x.p.Area, px, py)
			if left < x.v.Reserve {
				t.Error(x, plan, left)
			}
		}
		if !there {
			t.Error(x, plan, px, py)
		}
	})
	if good < 200 {
		t.Error("too few good plans:", good)
	}
}
