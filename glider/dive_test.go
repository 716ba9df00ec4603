package glider_test

import (
	"math"
	"math/rand"
	"slices"
	"testing"

	"isobath/api"
	"isobath/glider"
)

// P3.3: the chapter's examples.
func TestDiveExamples(t *testing.T) {
	s, v := example()
	if b, e := glider.Dive(s, v, at(2000, 2000), 0, api.Course{Heading: 2}); e != api.OK || b != area(2200, 2400, 2000, 2000) {
		t.Error(b, e)
	}
	if b, e := glider.Dive(s, v, at(400, 400), 0, api.Course{Heading: 2}); e != api.ErrNone || b != (api.Box{}) {
		t.Error(b, e)
	}
}

// P3.3: where each heading leads.
func TestHeadings(t *testing.T) {
	s, v := example()
	clear(s.Currents)
	for h, want := range []api.Box{
		at(2000, 2300), area(2212, 2213, 2212, 2213), at(2300, 2000), area(2212, 2213, 1787, 1788),
		at(2000, 1700), area(1787, 1788, 1787, 1788), at(1700, 2000), area(1787, 1788, 2212, 2213),
		at(2000, 2000),
	} {
		if b, e := glider.Dive(s, v, at(2000, 2000), 0, api.Course{Heading: h}); e != api.OK || b != want {
			t.Error(h, b, e)
		}
	}
}

// P3.3: a box that is wide, currents that are all negative, and the rounding.
func TestDiveRounding(t *testing.T) {
	s := still(4, 4, 1000, 10000, 1, 1)
	s.Most = 7
	for i := range s.Currents {
		s.Currents[i] = api.Current{U: span(-7, -5), V: span(1, 2)}
	}
	v := api.Vehicle{Speed: 0, Dive: 100}
	// X: 0.7 and 0.5 m to the west; Y: 0.1 to 0.2 m to the north.
	if b, e := glider.Dive(s, v, area(1000, 1010, 2000, 2020), 0, api.Course{Heading: 3}); e != api.OK || b != area(999, 1010, 2000, 2021) {
		t.Error(b, e)
	}
	// X: just 7 and 5 m.
	v.Dive = 1000
	if b, e := glider.Dive(s, v, area(1000, 1010, 2000, 2020), 0, api.Course{Heading: 8}); e != api.OK || b != area(993, 1005, 2001, 2022) {
		t.Error(b, e)
	}
}

// P3.3: the reach may come to the border of the sea, and not beyond it, and is
// rounded up.
func TestReachOfDive(t *testing.T) {
	s, v := example()
	for _, x := range []struct {
		speed int64
		b     api.Box
		want  api.Errno
	}{
		{300, area(500, 3500, 500, 3500), api.OK},
		{300, area(499, 3500, 500, 3500), api.ErrNone},
		{300, area(500, 3501, 500, 3500), api.ErrNone},
		{300, area(500, 3500, 499, 3500), api.ErrNone},
		{300, area(500, 3500, 500, 3501), api.ErrNone},
		{0, area(200, 3800, 200, 3800), api.OK},
		{0, area(199, 3800, 200, 3800), api.ErrNone},
		{300, at(-2000, 2000), api.ErrNone},
		{300, area(-api.MaxPlace, api.MaxPlace, -api.MaxPlace, api.MaxPlace), api.ErrNone},
		{300, at(api.MaxPlace, api.MaxPlace), api.ErrNone},
		{300, at(-api.MaxPlace, 2000), api.ErrNone},
	} {
		v.Speed = x.speed
		// The heading does not matter: not even the one without a direction.
		for h := range 9 {
			if _, e := glider.Dive(s, v, x.b, 0, api.Course{Heading: h}); e != x.want {
				t.Error(x, h, e)
			}
		}
	}
	// 501 mm/s for 999 s are 500.499 m.
	v.Speed, v.Dive = 301, 999
	for x, want := range map[int64]api.Errno{501: api.OK, 500: api.ErrNone} {
		if _, e := glider.Dive(s, v, at(x, 2000), 0, api.Course{}); e != want {
			t.Error(x, e)
		}
	}
}

// P3.3: a dive may end with the last second of the last slot.
func TestDiveInSlots(t *testing.T) {
	s := still(4, 4, 1000, 100, 3, 1)
	v := api.Vehicle{Dive: 50}
	for from, want := range map[int64]api.Errno{
		0: api.OK, 249: api.OK, 250: api.OK, 251: api.ErrNone, 299: api.ErrNone, 300: api.ErrNone, api.MaxValue: api.ErrNone,
	} {
		if _, e := glider.Dive(s, v, at(2000, 2000), from, api.Course{}); e != want {
			t.Error(from, e)
		}
	}
	v.Dive = 300
	for from, want := range map[int64]api.Errno{0: api.OK, 1: api.ErrNone} {
		if _, e := glider.Dive(s, v, at(2000, 2000), from, api.Course{}); e != want {
			t.Error(from, e)
		}
	}
}

// P3.3: the current of a dive is that of its slots, up to its end.
func TestCurrentOfDive(t *testing.T) {
	s := still(4, 4, 1000, 100, 3, 2)
	s.Most = 3000
	for j := range int64(3) {
		for c := range 16 {
			s.Currents[(j*2+1)*16+int64(c)].U = span(1000*j, 1000*j)
		}
	}
	v := api.Vehicle{Dive: 100}
	for from, want := range map[int64]api.Box{
		0: at(2000, 2000), 1: area(2000, 2100, 2000, 2000), 99: area(2000, 2100, 2000, 2000),
		100: at(2100, 2000), 150: area(2100, 2200, 2000, 2000), 200: at(2200, 2000),
	} {
		if b, e := glider.Dive(s, v, at(2000, 2000), from, api.Course{Heading: 8, Layer: 1}); e != api.OK || b != want {
			t.Error(from, b, e)
		}
		if b, e := glider.Dive(s, v, at(2000, 2000), from, api.Course{Heading: 8}); e != api.OK || b != at(2000, 2000) {
			t.Error(from, b, e)
		}
	}
}

// P3.3: a dive whose reach touches a shore is not safe, also at a border or a
// corner; one that is not possible is not asked for this.
func TestShores(t *testing.T) {
	s, v := example()
	// The reach is 500 m on all sides.
	for _, x := range []struct {
		b    api.Box
		want api.Errno
	}{
		{at(1501, 1501), api.ErrRule}, // The cell (1, 1) is a shore.
		{at(2500, 1500), api.ErrRule},
		{at(2501, 1500), api.OK},
		{at(2500, 2500), api.ErrRule},
		{at(2500, 2501), api.OK},
		{at(500, 500), api.ErrRule},
		{area(500, 500, 2501, 3000), api.OK},
		{at(499, 1500), api.ErrNone},
	} {
		shores := slices.Clone(s.Shores)
		s.Shores[5] = true
		b, e := glider.Dive(s, v, x.b, 0, api.Course{Heading: 8})
		if e != x.want || e != api.OK && b != (api.Box{}) {
			t.Error(x, b, e)
		}
		s.Shores = shores
	}
	for i := range s.Shores {
		s.Shores[i] = true
	}
	if _, e := glider.Dive(s, v, at(2000, 2000), 0, api.Course{}); e != api.ErrRule {
		t.Error(e)
	}
	if _, e := glider.Dive(s, v, at(2000, 2000), 9500, api.Course{}); e != api.ErrNone {
		t.Error(e)
	}
}

// P3.3: the greatest sea, and the longest dive that is possible in it.
func TestDiveAtLimits(t *testing.T) {
	s := still(12, 12, 1<<16, 1<<20, 16, 3)
	s.Most = 2000
	for i := range s.Currents {
		s.Currents[i] = api.Current{U: span(-2000, 2000), V: span(2000, 2000)}
	}
	v := api.Vehicle{Speed: 1000, Dive: 1 << 17}
	const middle = 6 << 16
	c := api.Course{Heading: 0, Layer: 2}
	want := area(middle-1<<18, middle+1<<18, 12<<16, 12<<16)
	// 262,144 s and 3,000 mm/s are just from the middle to the border.
	want.X = span(middle-262144, middle+262144)
	for _, from := range []int64{0, 1<<24 - 1<<17} {
		if b, e := glider.Dive(s, v, at(middle, middle), from, c); e != api.OK || b != want {
			t.Error(from, b, e)
		}
	}
	if _, e := glider.Dive(s, v, at(middle, middle), 1<<24-1<<17+1, c); e != api.ErrNone {
		t.Error(e)
	}
	v.Speed++
	if _, e := glider.Dive(s, v, at(middle, middle), 0, c); e != api.ErrNone {
		t.Error(e)
	}
	s.Most, v.Speed = 5000, 5000
	if _, e := glider.Dive(s, v, at(middle, middle), 0, c); e != api.ErrNone {
		t.Error(e)
	}
}

// P3.3: dives end as the chapter defines it.
func TestDiveTrials(t *testing.T) {
	ends := map[api.Errno]int{}
	trials(t, 4000, func(r *rand.Rand, x trial) {
		if r.Intn(3) == 0 {
			x.t += x.v.Dive
		}
		c := api.Course{Heading: r.Intn(9), Layer: r.Intn(x.s.Layers)}
		want, f := diveOf(x.s, x.v, x.b, x.t, c)
		b, e := glider.Dive(x.s, x.v, x.b, x.t, c)
		if e != f || b != want {
			t.Error(x, c, "gives", b, e, "not", want, f)
		}
		ends[e]++
	})
	if ends[api.OK] < 500 || ends[api.ErrNone] < 100 || ends[api.ErrRule] < 100 {
		t.Error(ends)
	}
}

// P3.4: the number of a dive that is not possible, or not safe.
func TestRun(t *testing.T) {
	s, v := example()
	clear(s.Currents)
	for _, x := range []struct {
		name string
		plan []api.Course
		from int64
		want []api.Box
		n    int
		e    api.Errno
	}{
		{"nil", nil, 0, nil, 0, api.OK},
		{"none", []api.Course{}, 0, nil, 0, api.OK},
		{"none, after all slots", nil, api.MaxValue, nil, 0, api.OK},
		{"one", headings(2), 0, []api.Box{at(2300, 2000)}, 1, api.OK},
		{"three", headings(2, 0, 8), 0, []api.Box{at(2300, 2000), at(2300, 2300), at(2300, 2300)}, 3, api.OK},
		{"the first after all slots", headings(2, 2), 9001, nil, 0, api.ErrNone},
		{"the second after all slots", headings(2, 2), 9000, nil, 1, api.ErrNone},
		{"the last out of the sea", headings(2, 2, 2, 2, 2, 2), 0, []api.Box{
			at(2300, 2000), at(2600, 2000), at(2900, 2000), at(3200, 2000), at(3500, 2000), at(3800, 2000)}, 6, api.OK},
		{"out of the sea", headings(2, 2, 2, 2, 2, 2, 2, 2), 0, nil, 6, api.ErrNone},
		{"to the shore", headings(8, 1, 1, 1, 1), 0, nil, 4, api.ErrRule},
		{"at the shore", headings(8, 1, 1, 1), 0, []api.Box{
			at(2000, 2000), area(2212, 2213, 2212, 2213), area(2424, 2426, 2424, 2426), area(2636, 2639, 2636, 2639)}, 4, api.OK},
	} {
		s.Shores[15] = true
		l, n, e := glider.Run(s, v, at(2000, 2000), x.from, x.plan)
		if e != x.e || n != x.n || !slices.Equal(l, x.want) {
			t.Error(x.name, l, n, e)
		}
	}
}

// P3.4: a run of as many dives as there can be.
func TestLongRun(t *testing.T) {
	s := still(4, 4, 1000, 100, 2, 1)
	s.Most = 10
	for i := range s.Currents {
		s.Currents[i].V = span(-10, 10)
	}
	v := api.Vehicle{Dive: 3}
	plan := slices.Repeat(headings(8), 64)
	l, n, e := glider.Run(s, v, at(2000, 2000), 8, plan)
	if e != api.OK || n != 64 || len(l) != 64 || l[63] != area(2000, 2000, 1936, 2064) {
		t.Error(l, n, e)
	}
	if l, n, e := glider.Run(s, v, at(2000, 2000), 9, plan); e != api.ErrNone || n != 63 || len(l) != 0 {
		t.Error(l, n, e)
	}
}

// P3.4: runs are those that the chapter defines.
func TestRunTrials(t *testing.T) {
	ends := map[api.Errno]int{}
	trials(t, 4000, func(r *rand.Rand, x trial) {
		want, m, f := runOf(x.s, x.v, x.b, x.t, x.plan)
		l, n, e := glider.Run(x.s, x.v, x.b, x.t, x.plan)
		if e != f || n != m || !slices.Equal(l, want) {
			t.Error(x, "gives", l, n, e, "not", want, m, f)
		}
		if len(x.plan) > 1 && (e == api.OK || n > 0) {
			ends[e]++
		}
	})
	if ends[api.OK] < 200 || ends[api.ErrNone] < 100 || ends[api.ErrRule] < 10 {
		t.Error(ends)
	}
}

// P3.3 and P3.4: courses that are not valid.
func TestBadCourses(t *testing.T) {
	s, v := example()
	s = still(4, 4, 1000, 10000, 1, 2)
	var bad []api.Course
	for _, x := range []int{-1, 9, math.MinInt, math.MaxInt, 1 << 32} {
		bad = append(bad, api.Course{Heading: x})
	}
	for _, x := range []int{-1, 2, 3, math.MinInt, math.MaxInt, 1 << 32} {
		bad = append(bad, api.Course{Heading: 8, Layer: x}, api.Course{Heading: -1, Layer: x})
	}
	for _, c := range bad {
		for _, b := range []api.Box{at(2000, 2000), at(0, 0)} {
			if end, e := glider.Dive(s, v, b, 0, c); e != api.ErrArg || end != (api.Box{}) {
				t.Error(c, end, e)
			}
			for _, plan := range [][]api.Course{{c}, {{Heading: 8}, {Layer: 1}, c}} {
				if l, n, e := glider.Run(s, v, b, 0, plan); e != api.ErrArg || n != 0 || len(l) != 0 {
					t.Error(plan, l, n, e)
				}
			}
		}
	}
	long := slices.Repeat(headings(8), 65)
	for _, plan := range [][]api.Course{long, append(slices.Clone(bad), long...), append(slices.Clone(long), bad...)} {
		if l, n, e := glider.Run(s, v, at(0, 0), 0, plan); e != api.ErrMany || n != 0 || len(l) != 0 {
			t.Error(l, n, e)
		}
	}
}

// P3.12: a vehicle that begins somewhere in the box, and that the water moves,
// ends each dive in its box.
func TestSailing(t *testing.T) {
	dives := 0
	trials(t, 1200, func(r *rand.Rand, x trial) {
		boxes, _, e := glider.Run(x.s, x.v, x.b, x.t, x.plan)
		if e != api.OK {
			return
		}
		for range 8 {
			const m = 1000000
			px := x.b.X.Lo*m + r.Int63n((x.b.X.Hi-x.b.X.Lo)*m+1)
			py := x.b.Y.Lo*m + r.Int63n((x.b.Y.Hi-x.b.Y.Lo)*m+1)
			if r.Intn(2) == 0 {
				px, py = x.b.X.Lo*m, x.b.Y.Hi*m
			}
			now := x.t
			for i, c := range x.plan {
				px, py = sail(r, x.s, x.v, px, py, now, c)
				now += x.v.Dive
				if !holds(boxes[i], px, py) {
					t.Fatal(x, i, px, py, boxes[i])
				}
				dives++
			}
		}
	})
	if dives < 2000 {
		t.Error("too few dives:", dives)
	}
}

// P3.13: from a wider box, and in wider currents, a dive ends in a wider box.
func TestWiderDive(t *testing.T) {
	both := 0
	trials(t, 4000, func(r *rand.Rand, x trial) {
		c := api.Course{Heading: r.Intn(9), Layer: r.Intn(x.s.Layers)}
		narrow, e := glider.Dive(x.s, x.v, x.b, x.t, c)
		s, b := clone(x.s), x.b
		for i, w := range s.Currents {
			s.Currents[i] = api.Current{U: wider(w.U, someSpan(r, -s.Most, s.Most)), V: wider(w.V, someSpan(r, -s.Most, s.Most))}
			if r.Intn(2) == 0 {
				s.Currents[i] = w
			}
		}
		b = area(b.X.Lo-r.Int63n(30), b.X.Hi+r.Int63n(30), b.Y.Lo-r.Int63n(30), b.Y.Hi+r.Int63n(30))
		wide, f := glider.Dive(s, x.v, b, x.t, c)
		if e != api.OK || f != api.OK {
			return
		}
		both++
		if !contains(wide, narrow) {
			t.Error(x, b, c, narrow, wide)
		}
	})
	if both < 500 {
		t.Error("too few dives:", both)
	}
}
