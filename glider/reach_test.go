package glider_test

import (
	"math"
	"math/rand"
	"slices"
	"testing"

	"isobath/api"
	"isobath/glider"
)

// P3.9: the chapter's example, and what is reached by further dives.
func TestReachExample(t *testing.T) {
	s, v := example()
	want := []api.Box{area(1600, 2400, 1700, 2300), area(1200, 2800, 1400, 2600), area(800, 3200, 1100, 2900)}
	for dives := range 4 {
		if l, e := glider.Reach(s, v, at(2000, 2000), 0, dives); e != api.OK || !slices.Equal(l, want[:dives]) {
			t.Error(dives, l, e)
		}
	}
	// The reach of the fifth dive would begin at 400 - 500.
	if l, e := glider.Reach(s, v, at(2000, 2000), 0, 4); e != api.OK || len(l) != 4 || l[3] != area(400, 3600, 800, 3200) {
		t.Error(l, e)
	}
	if l, e := glider.Reach(s, v, at(2000, 2000), 0, 5); e != api.ErrNone || len(l) != 0 {
		t.Error(l, e)
	}
}

// P3.9: no dive, also where none is possible, and as many as there can be.
func TestReachDives(t *testing.T) {
	s := still(4, 4, 1000, 100, 2, 1)
	v := api.Vehicle{Speed: 1000, Dive: 3}
	for _, b := range []api.Box{at(2000, 2000), at(0, 0), at(-9000, 9000)} {
		if l, e := glider.Reach(s, v, b, api.MaxValue, 0); e != api.OK || len(l) != 0 {
			t.Error(b, l, e)
		}
	}
	if l, e := glider.Reach(s, v, at(2000, 2000), 8, 64); e != api.OK || len(l) != 64 || l[63] != area(1808, 2192, 1808, 2192) {
		t.Error(l, e)
	}
	if l, e := glider.Reach(s, v, at(2000, 2000), 9, 64); e != api.ErrNone || len(l) != 0 {
		t.Error(l, e)
	}
	for _, dives := range []int{-1, 65, math.MinInt, math.MaxInt, 1 << 32} {
		if l, e := glider.Reach(s, v, at(0, 0), 0, dives); e != api.ErrRange || len(l) != 0 {
			t.Error(dives, l, e)
		}
		if l, e := glider.Never(s, v, at(0, 0), 0, examplePickup(), dives); e != api.ErrRange || len(l) != 0 {
			t.Error(dives, l, e)
		}
	}
	if l, e := glider.Never(s, v, at(0, 0), 0, examplePickup(), 0); e != api.ErrRange || len(l) != 0 {
		t.Error(l, e)
	}
}

// P3.9: shores do not matter, and all layers do.
func TestReachShoresAndLayers(t *testing.T) {
	s, v := example()
	for i := range s.Shores {
		s.Shores[i] = true
	}
	want := []api.Box{area(1600, 2400, 1700, 2300)}
	if l, e := glider.Reach(s, v, at(2000, 2000), 0, 1); e != api.OK || !slices.Equal(l, want) {
		t.Error(l, e)
	}
	if e := glider.CheckReach(s, v, at(2000, 2000), 0, want); e != api.OK {
		t.Error(e)
	}
	s = still(4, 4, 1000, 10000, 1, 3)
	s.Most = 200
	for c := range 16 {
		s.Currents[32+c].U = span(150, 200)
	}
	if l, e := glider.Reach(s, v, at(2000, 2000), 0, 1); e != api.OK || !slices.Equal(l, []api.Box{area(1700, 2500, 1700, 2300)}) {
		t.Error(l, e)
	}
}

// P3.9: boxes that just contain all ends, and those that do not on one side.
func TestCheckReach(t *testing.T) {
	s, v := example()
	try := func(want api.Errno, boxes ...api.Box) {
		t.Helper()
		if e := glider.CheckReach(s, v, at(2000, 2000), 0, boxes); e != want {
			t.Error(boxes, e)
		}
	}
	first, second := area(1600, 2400, 1700, 2300), area(1200, 2800, 1400, 2600)
	try(api.OK)
	try(api.OK, first)
	try(api.OK, first, second)
	try(api.OK, area(-1600, 12400, 0, 5000))
	for _, b := range []api.Box{
		area(1601, 2400, 1700, 2300), area(1600, 2399, 1700, 2300),
		area(1600, 2400, 1701, 2300), area(1600, 2400, 1700, 2299), at(2000, 2000), area(2300, 2500, 1700, 2300),
	} {
		try(api.ErrSum, b)
		try(api.ErrSum, b, area(-9999, 9999, -9999, 9999))
	}
	try(api.ErrSum, at(0, 0))
	try(api.ErrSum, first, first)
	try(api.ErrSum, area(1599, 2400, 1700, 2300), second)
	try(api.OK, area(1599, 2400, 1700, 2300), area(1199, 2800, 1400, 2600))
}

// P3.9: a dive that is not possible comes before a box that is too small, also
// before one that is earlier in the list (R1); from the last box there is none.
func TestCheckReachNotPossible(t *testing.T) {
	s, v := example()
	all, small := area(-9999, 9999, -9999, 9999), at(2000, 2000)
	for _, x := range []struct {
		name  string
		b     api.Box
		from  int64
		boxes []api.Box
		want  api.Errno
	}{
		{"the first", at(499, 2000), 0, []api.Box{all}, api.ErrNone},
		{"the first, too small", at(499, 2000), 0, []api.Box{small}, api.ErrNone},
		{"the second", at(2000, 2000), 0, []api.Box{area(499, 3500, 500, 3500), all}, api.ErrNone},
		{"the second just is", at(2000, 2000), 0, []api.Box{area(500, 3500, 500, 3500), all}, api.OK},
		{"from the last", at(2000, 2000), 0, []api.Box{all}, api.OK},
		{"after one that is too small", at(2000, 2000), 0, []api.Box{at(0, 0), all}, api.ErrNone},
		{"after two that are too small", at(2000, 2000), 0, []api.Box{small, at(0, 0), all}, api.ErrNone},
		{"after the slots", at(2000, 2000), 9001, []api.Box{all}, api.ErrNone},
		{"after the slots, the second", at(2000, 2000), 9000, []api.Box{area(1600, 2400, 1700, 2300), all}, api.ErrNone},
		{"after the slots, too small before", at(2000, 2000), 9000, []api.Box{small, all}, api.ErrNone},
		{"the last in the slots", at(2000, 2000), 9000, []api.Box{area(1600, 2400, 1700, 2300)}, api.OK},
		{"no box", at(-9999, 0), api.MaxValue, nil, api.OK},
	} {
		if e := glider.CheckReach(s, v, x.b, x.from, x.boxes); e != x.want {
			t.Error(x.name, e)
		}
	}
}

// P3.9: boxes that are too many, or not valid.
func TestCheckReachErrors(t *testing.T) {
	s := still(4, 4, 1000, 100, 2, 1)
	v := api.Vehicle{Dive: 3}
	good := slices.Repeat([]api.Box{at(2000, 2000)}, 65)
	if e := glider.CheckReach(s, v, good[0], 8, good[:64]); e != api.OK {
		t.Error(e)
	}
	if e := glider.CheckReach(s, v, good[0], 9, good[:64]); e != api.ErrNone {
		t.Error(e)
	}
	if e := glider.CheckReach(s, v, good[0], 9, good); e != api.ErrMany {
		t.Error(e)
	}
	for _, b := range badBoxes() {
		for _, l := range [][]api.Box{{b}, {at(0, 0), b}, append(slices.Clone(good[:63]), b)} {
			if e := glider.CheckReach(s, v, good[0], 9, l); e != api.ErrArg {
				t.Error(b, e)
			}
		}
		if e := glider.CheckReach(s, v, good[0], 9, append([]api.Box{b}, good[:64]...)); e != api.ErrMany {
			t.Error(b, e)
		}
	}
}

// P3.9: what is reached is what the chapter defines, and is accepted.
func TestReachTrials(t *testing.T) {
	ends := map[api.Errno]int{}
	trials(t, 1500, func(r *rand.Rand, x trial) {
		dives := r.Intn(5)
		want, f := reachesOf(x.s, x.v, x.b, x.t, dives)
		l, e := glider.Reach(x.s, x.v, x.b, x.t, dives)
		if e != f || !slices.Equal(l, want) {
			t.Error(x, dives, "gives", l, e, "not", want, f)
		}
		ends[e]++
		for i := range l {
			switch by := r.Int63n(5) - 2; r.Intn(8) {
			case 0:
				l[i].X.Lo += by
			case 1:
				l[i].Y.Hi += by
			case 2:
				l[i].X.Hi += by
			case 3:
				l[i].Y.Lo += by
			}
		}
		if g := glider.CheckReach(x.s, x.v, x.b, x.t, l); g != checkReachOf(x.s, x.v, x.b, x.t, l) {
			t.Error(x, l, g)
		} else if g == api.ErrSum {
			ends[g]++
		}
	})
	if ends[api.OK] < 200 || ends[api.ErrNone] < 200 || ends[api.ErrSum] < 50 {
		t.Error(ends)
	}
}

// P3.10: when the area may be reached, and when not.
func TestNever(t *testing.T) {
	s, v := example()
	first, second := area(1600, 2400, 1700, 2300), area(1200, 2800, 1400, 2600)
	for _, x := range []struct {
		name     string
		area     api.Box
		from, to int64
		dives    int
		want     []api.Box
		e        api.Errno
	}{
		{"far", at(3500, 3500), 0, 9999, 2, []api.Box{first, second}, api.OK},
		{"at the border", at(2800, 2600), 0, 9999, 2, nil, api.ErrPlan},
		{"just beyond it along X", at(2801, 2600), 0, 9999, 2, []api.Box{first, second}, api.OK},
		{"just beyond it along Y", at(2800, 2601), 0, 9999, 2, []api.Box{first, second}, api.OK},
		{"only by the second", area(2401, 3000, 2000, 2000), 0, 9999, 1, []api.Box{first}, api.OK},
		{"only by the second, of two", area(2401, 3000, 2000, 2000), 0, 9999, 2, nil, api.ErrPlan},
		{"before the second", area(2401, 3000, 2000, 2000), 0, 1999, 2, []api.Box{first, second}, api.OK},
		{"at the end of the second", area(2401, 3000, 2000, 2000), 2000, 2000, 2, nil, api.ErrPlan},
		{"where it begins, too early", at(2000, 2000), 0, 999, 2, []api.Box{first, second}, api.OK},
		{"between dives", at(2000, 2000), 1001, 1999, 2, []api.Box{first, second}, api.OK},
		{"after all dives", at(2000, 2000), 2001, 9999, 2, []api.Box{first, second}, api.OK},
		{"around it", area(0, 4000, 0, 4000), 0, 9999, 1, nil, api.ErrPlan},
		{"around it, too many dives", area(0, 4000, 0, 4000), 0, 9999, 5, nil, api.ErrNone},
		{"far, too many dives", at(0, 0), 0, 9999, 5, nil, api.ErrNone},
	} {
		p := api.Pickup{Area: x.area, From: x.from, To: x.to}
		if l, e := glider.Never(s, v, at(2000, 2000), 0, p, x.dives); e != x.e || !slices.Equal(l, x.want) {
			t.Error(x.name, l, e)
		}
	}
	for i := range s.Shores {
		s.Shores[i] = true
	}
	if _, e := glider.Never(s, v, at(2000, 2000), 0, examplePickup(), 1); e != api.ErrPlan {
		t.Error("shores:", e)
	}
}

// P3.10: a proof of as many dives as there can be.
func TestLongNever(t *testing.T) {
	s := still(4, 4, 1000, 100, 2, 1)
	v := api.Vehicle{Speed: 1000, Dive: 3}
	for x, want := range map[int64]api.Errno{2193: api.OK, 2192: api.ErrPlan} {
		l, e := glider.Never(s, v, at(2000, 2000), 0, api.Pickup{Area: at(x, 2000), To: 192}, 64)
		if e != want || e == api.OK && len(l) != 64 {
			t.Error(x, l, e)
		}
	}
}

// P3.10: proofs are those that the chapter defines.
func TestNeverTrials(t *testing.T) {
	ends := map[api.Errno]int{}
	trials(t, 1500, func(r *rand.Rand, x trial) {
		dives := 1 + r.Intn(3)
		x.p.Area.X.Lo += int64(r.Intn(2)) * x.s.Cell
		x.p.Area.X.Hi += x.s.Cell
		want, f := reachesOf(x.s, x.v, x.b, x.t, dives)
		for i, b := range want {
			if end := x.t + int64(i+1)*x.v.Dive; x.p.From <= end && end <= x.p.To && meet(b, x.p.Area) {
				f = api.ErrPlan
			}
		}
		if f != api.OK {
			want = nil
		}
		l, e := glider.Never(x.s, x.v, x.b, x.t, x.p, dives)
		if e != f || !slices.Equal(l, want) {
			t.Error(x, dives, "gives", l, e, "not", want, f)
		}
		ends[e]++
	})
	if ends[api.OK] < 100 || ends[api.ErrNone] < 100 || ends[api.ErrPlan] < 100 {
		t.Error(ends)
	}
}

// P3.16: if CheckReach accepts boxes, each run stays in them.
func TestRunsStayInReach(t *testing.T) {
	runs := 0
	trials(t, 2000, func(r *rand.Rand, x trial) {
		boxes, e := glider.Reach(x.s, x.v, x.b, x.t, len(x.plan))
		if e != api.OK {
			return
		}
		for i := range boxes {
			by := r.Int63n(3)
			boxes[i] = area(boxes[i].X.Lo-by, boxes[i].X.Hi+by, boxes[i].Y.Lo-by, boxes[i].Y.Hi+by)
		}
		if glider.CheckReach(x.s, x.v, x.b, x.t, boxes) != api.OK {
			return
		}
		l, _, e := glider.Run(x.s, x.v, x.b, x.t, x.plan)
		for i, b := range l {
			if !contains(boxes[i], b) {
				t.Error(x, i, b, boxes)
			}
		}
		if e == api.OK {
			runs++
		}
	})
	if runs < 200 {
		t.Error("too few runs:", runs)
	}
}

// P3.16: CheckReach accepts a proof, and then no plan is good.
func TestProofs(t *testing.T) {
	proofs, plans := 0, 0
	trials(t, 1500, func(r *rand.Rand, x trial) {
		dives := 1 + r.Intn(2)
		boxes, e := glider.Never(x.s, x.v, x.b, x.t, x.p, dives)
		_, _, f := glider.Best(x.s, x.v, x.b, x.t, x.energy, x.p, dives)
		if f == api.OK {
			plans++
		}
		if e != api.OK {
			return
		}
		proofs++
		if g := glider.CheckReach(x.s, x.v, x.b, x.t, boxes); f != api.ErrPlan || g != api.OK || len(boxes) != dives {
			t.Error(x, boxes, f, g)
		}
	})
	if proofs < 100 || plans < 100 {
		t.Error(proofs, plans)
	}
}
