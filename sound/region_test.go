package sound_test

import (
	"math"
	"math/rand"
	"slices"
	"testing"

	"isobath/api"
	"isobath/sound"
)

// P7.6: the chapter's example, and its other depths.
func TestExamplesOfRegion(t *testing.T) {
	n, a, area := example(), exampleArrivals(), box(0, 4000, 0, 4000)
	for depth, side := range []int64{4000, 2000, 1000, 500, 250, 125} {
		l, e := sound.Region(n, a, area, depth)
		equal(t, depth, l, e, []api.Box{box(0, side, 0, side)}, api.OK)
	}
}

// P7.6: the parts of boxes in their order, with middles that are rounded down
// also below 0, and sides that are not divided.
func TestRegionParts(t *testing.T) {
	for _, x := range []struct {
		area api.Box
		want []api.Box
	}{
		{box(0, 4, 10, 20), []api.Box{box(0, 2, 10, 15), box(2, 4, 10, 15), box(0, 2, 15, 20), box(2, 4, 15, 20)}},
		{box(0, 5, 10, 13), []api.Box{box(0, 2, 10, 11), box(2, 5, 10, 11), box(0, 2, 11, 13), box(2, 5, 11, 13)}},
		{box(-5, 0, -8, -3), []api.Box{box(-5, -3, -8, -6), box(-3, 0, -8, -6), box(-5, -3, -6, -3), box(-3, 0, -6, -3)}},
		{box(-2, 1, -1, 2), []api.Box{box(-2, -1, -1, 0), box(-1, 1, -1, 0), box(-2, -1, 0, 2), box(-1, 1, 0, 2)}},
		{box(0, 1, -1, 0), []api.Box{box(0, 0, -1, -1), box(0, 1, -1, -1), box(0, 0, -1, 0), box(0, 1, -1, 0)}},
		{box(7, 7, 10, 20), []api.Box{box(7, 7, 10, 15), box(7, 7, 15, 20)}},
		{box(0, 4, -7, -7), []api.Box{box(0, 2, -7, -7), box(2, 4, -7, -7)}},
		{point(3, -3), []api.Box{point(3, -3)}},
		{box(-place, place, place-1, place), []api.Box{
			box(-place, 0, place-1, place-1), box(0, place, place-1, place-1), box(-place, 0, place-1, place), box(0, place, place-1, place),
		}},
	} {
		l, e := sound.Region(example(), always(3), x.area, 1)
		equal(t, x.area, l, e, x.want, api.OK)
	}
}

// P7.6: all parts of parts, as many as there can be.
func TestRegionOfAll(t *testing.T) {
	many := 1
	for depth := range 6 {
		area := box(-1<<20, 1<<20, 0, 1<<20)
		l, e := sound.Region(example(), always(3), area, depth)
		equal(t, depth, l, e, regionOf(example(), always(3), area, depth), api.OK)
		if len(l) != many {
			t.Error(depth, len(l))
		}
		many *= 4
		// What cannot be divided stays one box.
		l, e = sound.Region(example(), always(3), point(5, 5), depth)
		equal(t, depth, l, e, []api.Box{point(5, 5)}, api.OK)
		l, e = sound.Region(example(), always(3), box(5, 5, 0, 1<<20), depth)
		equal(t, depth, l, e, regionOf(example(), always(3), box(5, 5, 0, 1<<20), depth), api.OK)
		if len(l) != 1<<depth {
			t.Error(depth, len(l))
		}
	}
}

// P7.6: an area that is excluded has an empty region, and no error.
func TestRegionOfExcluded(t *testing.T) {
	for depth := range 6 {
		for _, area := range []api.Box{point(3000, 4000), box(2900, 3100, 3900, 4100)} {
			l, e := sound.Region(example(), exampleArrivals(), area, depth)
			equal(t, depth, l, e, nil, api.OK)
		}
	}
	// The area is not excluded, but each of its parts is.
	n := api.Net{Stations: []api.Box{point(0, 0), point(100, 0)}, Speed: exactly(1000)}
	a := []api.Span{exactly(0), exactly(1000)}
	found := false
	for x := int64(-2000); x <= 2000; x += 100 {
		area := box(x, x+2000, -1000, 1000)
		l, e := sound.Region(n, a, area, 0)
		equal(t, x, l, e, regionOf(n, a, area, 0), api.OK)
		some := len(l) > 0
		l, e = sound.Region(n, a, area, 5)
		equal(t, x, l, e, regionOf(n, a, area, 5), api.OK)
		found = found || some && len(l) == 0
	}
	if !found {
		t.Error("no area of which just the parts are excluded")
	}
}

// P7.6: depths that there are not.
func TestRegionDepth(t *testing.T) {
	for _, depth := range []int{-1, 6, 7, math.MinInt, math.MaxInt} {
		for _, area := range []api.Box{point(3000, 4000), box(0, 4000, 0, 4000)} {
			l, e := sound.Region(example(), exampleArrivals(), area, depth)
			equal(t, depth, l, e, nil, api.ErrRange)
		}
	}
}

// P7.6: Region agrees with the definition.
func TestRegionIsDefined(t *testing.T) {
	r := rand.New(rand.NewSource(9))
	many := map[bool]int{}
	for range 600 {
		far := []int64{20, 5000, place}[r.Intn(3)]
		n := someNet(r, 8, far, far/20)
		area := someBox(r, far, 2*far)
		a := someArrivals(r, n, smaller(r, area))
		depth := r.Intn(6)
		l, e := sound.Region(n, a, area, depth)
		equal(t, area, l, e, regionOf(n, a, area, depth), api.OK)
		many[len(l) == 0]++
		many[len(l) > 4]++
	}
	if many[true] < 100 {
		t.Error(many)
	}
}

// P7.10: whatever is true within the bounds, the source lies in a box of the
// region, for each depth, and the true origin in the origin of that box.
func TestSourceIsInRegion(t *testing.T) {
	r := rand.New(rand.NewSource(10))
	for range 800 {
		far := []int64{20, 5000, place}[r.Intn(3)]
		n := someNet(r, 8, far, far/20)
		area := someBox(r, far, 2*far)
		source, origin, speed := someSpot(r, area), r.Int63n(80001)-40000, someTruth(r, n.Speed)
		var a []api.Span
		early, late := r.Int63n(3), r.Int63n([]int64{1, 3, 1000}[r.Intn(3)])
		for _, s := range n.Stations {
			x := around(arrives(origin, source, someSpot(r, s), speed))
			a = append(a, span(x.Lo-early, x.Hi+late))
		}
		for depth := range 6 {
			l, e := sound.Region(n, a, area, depth)
			if e != api.OK || !slices.ContainsFunc(l, func(b api.Box) bool { return isIn(source.x, b.X) && isIn(source.y, b.Y) }) {
				t.Fatal(n, a, area, depth, source, l, e)
			}
			for _, b := range l {
				if !isIn(source.x, b.X) || !isIn(source.y, b.Y) {
					continue
				}
				if o, e := sound.Origin(n, a, b); e != api.OK || !isIn(origin, o) {
					t.Fatal(n, a, b, origin, o, e)
				}
			}
		}
	}
}

// P7.12: each box of a region lies in a box of the region with a lesser depth.
func TestRegionsAreNearer(t *testing.T) {
	r := rand.New(rand.NewSource(11))
	many := 0
	for range 300 {
		n := someNet(r, 5, 5000, 200)
		area := someBox(r, 5000, 10000)
		a := someArrivals(r, n, smaller(r, area))
		before, _ := sound.Region(n, a, area, 0)
		for depth := 1; depth <= 5; depth++ {
			l, _ := sound.Region(n, a, area, depth)
			for _, b := range l {
				many++
				if !slices.ContainsFunc(before, func(c api.Box) bool { return holds(c, b) }) {
					t.Fatal(n, a, area, depth, b)
				}
			}
			before = l
		}
	}
	if many < 1000 {
		t.Error(many)
	}
}

// P7.12: with narrower arrivals, or another station, no box is in the region that
// was not in it; nor with narrower places of stations, or a narrower speed (G1).
func TestRegionsAreNarrower(t *testing.T) {
	r := rand.New(rand.NewSource(12))
	fewer := 0
	for range 600 {
		n := someNet(r, 5, 5000, 200)
		area := someBox(r, 5000, 10000)
		a := someArrivals(r, n, smaller(r, area))
		depth := r.Intn(6)
		wide, e := sound.Region(n, a, area, depth)
		if e != api.OK {
			t.Fatal(e)
		}
		m := api.Net{Speed: n.Speed, Stations: append(slices.Clone(n.Stations), someBox(r, 5000, 200))}
		more := append(slices.Clone(a), someArrivals(r, m, smaller(r, area))[len(n.Stations)])
		less := api.Net{Speed: narrower(r, n.Speed), Stations: each(n.Stations, func(b api.Box) api.Box { return smaller(r, b) })}
		sooner := each(a, func(a api.Span) api.Span { return narrower(r, a) })
		for _, x := range []struct {
			n api.Net
			a []api.Span
		}{{n, sooner}, {m, more}, {less, a}, {less, sooner}} {
			narrow, e := sound.Region(x.n, x.a, area, depth)
			if e != api.OK {
				t.Fatal(e)
			}
			for _, b := range narrow {
				if !slices.Contains(wide, b) {
					t.Fatal(n, x.n, a, x.a, area, depth, b)
				}
			}
			if len(narrow) < len(wide) {
				fewer++
			}
		}
	}
	if fewer < 300 {
		t.Error(fewer)
	}
}
