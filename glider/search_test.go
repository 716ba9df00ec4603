package glider_test

import (
	"math"
	"math/rand"
	"slices"
	"testing"

	"isobath/api"
	"isobath/glider"
)

// P3.8: the chapter's example.
func TestBestExample(t *testing.T) {
	s, v := example()
	plan, cost, e := glider.Best(s, v, at(2000, 2000), 0, span(300, 310), examplePickup(), 2)
	if e != api.OK || cost != 60 || !slices.Equal(plan, headings(2)) {
		t.Error(plan, cost, e)
	}
}

// bestOf returns the good plan of up to some dives with the least cost, the
// first one of all plans: the shorter ones come first, in lexicographic order.
func bestOf(x trial, dives int) ([]api.Course, int64, api.Errno) {
	var best []api.Course
	for n := range dives {
		for _, plan := range plansOf(x.s.Layers, n+1) {
			if planOf(x.s, x.v, x.b, x.t, x.energy, plan, x.p) == api.OK && (best == nil || costOf(x.v, plan) < costOf(x.v, best)) {
				best = plan
			}
		}
	}
	if best == nil {
		return nil, 0, api.ErrPlan
	}
	return best, costOf(x.v, best), api.OK
}

// calm returns a trial in still water: the vehicle goes 100 m in a dive, and
// has energy enough.
func calm(layers int) trial {
	return trial{
		s:      still(4, 4, 1000, 10000, 1, layers),
		v:      api.Vehicle{Speed: 1000, Dive: 100, Use: span(0, 10), Drift: span(0, 3)},
		b:      at(2000, 2000),
		energy: span(100, 100),
	}
}

// P3.8: of several good plans the cheapest, then the shortest, then the first.
func TestBestOfSeveral(t *testing.T) {
	for _, x := range []struct {
		name       string
		use, drift int64
		p          api.Pickup
		dives      int
		want       []api.Course
		cost       int64
	}{
		{"anywhere", 10, 10, api.Pickup{Area: area(0, 4000, 0, 4000), To: 1000}, 3, headings(0), 10},
		{"anywhere, drifting is cheaper", 10, 3, api.Pickup{Area: area(0, 4000, 0, 4000), To: 1000}, 3, headings(8), 3},
		{"anywhere, drifting costs more", 3, 10, api.Pickup{Area: area(0, 4000, 0, 4000), To: 1000}, 3, headings(0), 3},
		{"anywhere, nothing costs", 0, 0, api.Pickup{Area: area(0, 4000, 0, 4000), To: 1000}, 3, headings(0), 0},
		{"later", 10, 10, api.Pickup{Area: area(0, 4000, 0, 4000), From: 200, To: 1000}, 3, headings(0, 0), 20},
		{"later, drifting is cheaper", 10, 3, api.Pickup{Area: area(0, 4000, 0, 4000), From: 101, To: 1000}, 3, headings(8, 8), 6},
		{"where it is", 10, 3, api.Pickup{Area: at(2000, 2000), To: 1000}, 3, headings(8), 3},
		{"where it is, drifting costs much", 1, 10, api.Pickup{Area: at(2000, 2000), To: 1000}, 3, headings(0, 4), 2},
		{"where it is, at the same cost", 5, 10, api.Pickup{Area: at(2000, 2000), To: 1000}, 3, headings(8), 10},
		{"to the north-east, of two ways", 1, 5, api.Pickup{Area: at(2100, 2100), To: 1000}, 2, headings(0, 2), 2},
		{"then drift", 10, 3, api.Pickup{Area: at(2100, 2000), From: 300, To: 300}, 3, headings(2, 8, 8), 16},
		{"longer is cheaper", 10, 1, api.Pickup{Area: area(2000, 2100, 2000, 2000), From: 200, To: 300}, 3, headings(8, 8), 2},
		{"a longer plan is cheaper than a shorter one", 3, 10, api.Pickup{Area: at(2000, 2000), From: 100, To: 300}, 2, headings(0, 4), 6},
		{"three dives", 10, 3, api.Pickup{Area: at(2300, 2000), To: 1000}, 3, headings(2, 2, 2), 30},
	} {
		y := calm(1)
		y.v.Use, y.v.Drift, y.p = span(0, x.use), span(0, x.drift), x.p
		plan, cost, e := glider.Best(y.s, y.v, y.b, y.t, y.energy, y.p, x.dives)
		if e != api.OK || cost != x.cost || !slices.Equal(plan, x.want) {
			t.Error(x.name, plan, cost, e)
		}
		if want, m, f := bestOf(y, x.dives); f != api.OK || m != x.cost || !slices.Equal(want, x.want) {
			t.Error(x.name, "should be", want, m, f)
		}
	}
}

// P3.8: the layers, by which plans are in order after their headings.
func TestBestLayers(t *testing.T) {
	y := calm(3)
	y.s.Most = 1000
	for c := range 16 {
		y.s.Currents[16+c].U = span(1000, 1000)
		y.s.Currents[32+c].U = span(1000, 1000)
	}
	y.p = api.Pickup{Area: at(2100, 2000), To: 100}
	plan, cost, e := glider.Best(y.s, y.v, y.b, 0, y.energy, y.p, 1)
	if e != api.OK || cost != 3 || !slices.Equal(plan, []api.Course{{Heading: 8, Layer: 1}}) {
		t.Error(plan, cost, e)
	}
	y.v.Drift = span(10, 10)
	plan, cost, e = glider.Best(y.s, y.v, y.b, 0, y.energy, y.p, 1)
	if e != api.OK || cost != 10 || !slices.Equal(plan, headings(2)) {
		t.Error(plan, cost, e)
	}
	y.p.Area = at(2200, 2000)
	plan, cost, e = glider.Best(y.s, y.v, y.b, 0, y.energy, y.p, 3)
	if e != api.OK || cost != 10 || !slices.Equal(plan, []api.Course{{Heading: 2, Layer: 1}}) {
		t.Error(plan, cost, e)
	}
}

// P3.8: when no plan is good.
func TestBestNone(t *testing.T) {
	for name, spoil := range map[string]func(x *trial){
		"too far":               func(x *trial) { x.p.Area = at(2301, 2000) },
		"too late":              func(x *trial) { x.p.From, x.p.To = 0, 99 },
		"too early":             func(x *trial) { x.p.From, x.p.To = 301, 1000 },
		"too little energy":     func(x *trial) { x.energy = span(29, 500) },
		"a reserve":             func(x *trial) { x.v.Reserve = 71 },
		"a shore":               func(x *trial) { x.s.Shores[5] = true },
		"all shores":            func(x *trial) { x.s.Shores = slices.Repeat([]bool{true}, 16) },
		"not possible":          func(x *trial) { x.b = at(99, 2000) },
		"not in the sea":        func(x *trial) { x.b = at(-5000, 2000) },
		"not in the slots":      func(x *trial) { x.t = 9901 },
		"the third is too late": func(x *trial) { x.t = 9701 },
		"only open":             func(x *trial) { x.b = area(2000, 2001, 2000, 2000) },
	} {
		x := calm(1)
		x.p = api.Pickup{Area: at(2300, 2000), To: 1000}
		if plan, cost, e := glider.Best(x.s, x.v, x.b, x.t, x.energy, x.p, 3); e != api.OK || cost != 30 || !slices.Equal(plan, headings(2, 2, 2)) {
			t.Fatal(plan, cost, e)
		}
		if plan, cost, e := glider.Best(x.s, x.v, x.b, x.t, x.energy, x.p, 2); e != api.ErrPlan || cost != 0 || len(plan) != 0 {
			t.Fatal(plan, cost, e)
		}
		spoil(&x)
		if plan, cost, e := glider.Best(x.s, x.v, x.b, x.t, x.energy, x.p, 3); e != api.ErrPlan || cost != 0 || len(plan) != 0 {
			t.Error(name, plan, cost, e)
		}
	}
}

// P3.8: how many dives there may be.
func TestBestDives(t *testing.T) {
	x := calm(1)
	x.p = api.Pickup{Area: at(2000, 2000), To: 1000}
	for dives := range 5 {
		want := api.OK
		if dives < 1 || dives > 3 {
			want = api.ErrRange
		}
		if _, _, e := glider.Best(x.s, x.v, x.b, x.t, x.energy, x.p, dives); e != want {
			t.Error(dives, e)
		}
	}
	for _, dives := range []int{-1, math.MinInt, math.MaxInt, 1 << 32} {
		if plan, cost, e := glider.Best(x.s, x.v, x.b, x.t, x.energy, x.p, dives); e != api.ErrRange || cost != 0 || len(plan) != 0 {
			t.Error(dives, plan, cost, e)
		}
	}
}

// P3.8 and P3.15: Best returns the best of all plans that are good.
func TestBestTrials(t *testing.T) {
	found, long := 0, 0
	trials(t, 1500, func(r *rand.Rand, x trial) {
		dives := 1
		if x.s.Layers == 1 || r.Intn(10) == 0 {
			dives = 2
		}
		if r.Intn(3) == 0 {
			x.v.Drift.Hi = x.v.Use.Hi
			x.v.Drift.Lo = min(x.v.Drift.Lo, x.v.Drift.Hi)
		}
		want, m, f := bestOf(x, dives)
		plan, cost, e := glider.Best(x.s, x.v, x.b, x.t, x.energy, x.p, dives)
		if e != f || cost != m || !slices.Equal(plan, want) {
			t.Error(x, "gives", plan, cost, e, "not", want, m, f)
		}
		if e == api.OK {
			found++
			long += len(plan) - 1
		}
	})
	if found < 100 || long < 10 {
		t.Error("too few plans, or too short ones:", found, long)
	}
}

// P3.15: the same for plans of three dives, of which many cost the same.
func TestBestThreeDives(t *testing.T) {
	r := rand.New(rand.NewSource(15))
	found := map[int]int{}
	for range 40 {
		x := calm(1)
		x.v.Use, x.v.Drift = span(0, 1+r.Int63n(3)), span(0, 1+r.Int63n(3))
		x.p = api.Pickup{Area: at(1800+100*r.Int63n(5), 1800+100*r.Int63n(5)), From: r.Int63n(300), To: 300}
		by := r.Int63n(90)
		x.p.Area = area(x.p.Area.X.Lo-by, x.p.Area.X.Hi+by, x.p.Area.Y.Lo-by, x.p.Area.Y.Hi+by)
		want, m, f := bestOf(x, 3)
		plan, cost, e := glider.Best(x.s, x.v, x.b, x.t, x.energy, x.p, 3)
		if e != f || cost != m || !slices.Equal(plan, want) {
			t.Fatal(x, "gives", plan, cost, e, "not", want, m, f)
		}
		found[len(plan)]++
	}
	if found[2] < 3 || found[3] < 3 {
		t.Error(found)
	}
}

// P3.15: CheckPlan accepts what Best returns, at its cost, and no cheaper plan.
func TestBestIsGood(t *testing.T) {
	found := 0
	trials(t, 1500, func(r *rand.Rand, x trial) {
		plan, cost, e := glider.Best(x.s, x.v, x.b, x.t, x.energy, x.p, 3)
		if e == api.OK {
			found++
			if f := glider.CheckPlan(x.s, x.v, x.b, x.t, x.energy, plan, x.p); f != api.OK || cost != costOf(x.v, plan) || len(plan) > 3 {
				t.Error(x, plan, cost, f)
			}
		}
		for range 20 {
			other := somePlan(r, x.s, 3)
			if glider.CheckPlan(x.s, x.v, x.b, x.t, x.energy, other, x.p) == api.OK && (e != api.OK || costOf(x.v, other) < cost) {
				t.Error(x, plan, cost, e, "but", other)
			}
		}
	})
	if found < 200 {
		t.Error("too few plans:", found)
	}
}

// P3.8: the greatest search there can be ends.
func TestGreatestSearch(t *testing.T) {
	s := still(12, 12, 1<<16, 1, 16, 3)
	s.Most = 5000
	for i := range s.Currents {
		s.Currents[i] = api.Current{U: span(-5000, 5000), V: span(-5000, 5000)}
	}
	v := api.Vehicle{Speed: 5000, Dive: 5}
	p := api.Pickup{Area: at(0, 0), To: api.MaxValue}
	b := area(200, 12<<16-200, 200, 12<<16-200)
	if plan, cost, e := glider.Best(s, v, b, 0, span(0, 0), p, 3); e != api.ErrPlan || cost != 0 || len(plan) != 0 {
		t.Error(plan, cost, e)
	}
}

// R5 and R10: a plan is new memory, and the same one each time.
func TestBestAgain(t *testing.T) {
	s, v := example()
	plan, _, _ := glider.Best(s, v, at(2000, 2000), 0, span(300, 310), examplePickup(), 3)
	plan[0].Heading = 77
	again, _, _ := glider.Best(s, v, at(2000, 2000), 0, span(300, 310), examplePickup(), 3)
	if !slices.Equal(again, headings(2)) {
		t.Error(again)
	}
}
