package glider_test

import (
	"math"
	"math/rand"
	"slices"
	"testing"

	"isobath/api"
	"isobath/glider"
)

// P3.5: the chapter's examples.
func TestEnergyExamples(t *testing.T) {
	_, v := example()
	l, n, e := glider.Energy(v, span(300, 310), headings(2, 8, 2))
	if e != api.OK || n != 3 || !slices.Equal(l, []api.Span{span(240, 260), span(234, 255), span(174, 205)}) {
		t.Error(l, n, e)
	}
	if l, n, e := glider.Energy(v, span(300, 310), headings(0, 0, 0, 0)); e != api.ErrLost || n != 3 || len(l) != 0 {
		t.Error(l, n, e)
	}
	if n, e := glider.Lasts(v, span(300, 310)); e != api.OK || n != 3 {
		t.Error(n, e)
	}
}

// P3.5: the reserve may just be kept, and only dives have to keep it.
func TestEnergy(t *testing.T) {
	_, v := example()
	for _, x := range []struct {
		name string
		e    api.Span
		plan []api.Course
		want []api.Span
		n    int
		err  api.Errno
	}{
		{"no dive", span(300, 310), nil, nil, 0, api.OK},
		{"no dive, less than the reserve", span(0, 310), []api.Course{}, nil, 0, api.OK},
		{"just the reserve", span(160, 310), headings(7), []api.Span{span(100, 260)}, 1, api.OK},
		{"just not", span(159, 310), headings(7), nil, 0, api.ErrLost},
		{"just the reserve, drifting", span(106, 106), headings(8), []api.Span{span(100, 101)}, 1, api.OK},
		{"just not, drifting", span(105, 310), headings(8), nil, 0, api.ErrLost},
		{"the second not", span(165, 165), headings(0, 8, 8), nil, 1, api.ErrLost},
		{"the second just", span(166, 166), headings(0, 8), []api.Span{span(106, 116), span(100, 111)}, 2, api.OK},
		{"the Hi does not matter", span(120, api.MaxEnergy), headings(0), nil, 0, api.ErrLost},
		{"nothing", span(0, 0), headings(8), nil, 0, api.ErrLost},
	} {
		if l, n, e := glider.Energy(v, x.e, x.plan); e != x.err || n != x.n || !slices.Equal(l, x.want) {
			t.Error(x.name, l, n, e)
		}
	}
	// Dives that take nothing do not keep a reserve that is not there.
	v.Drift = span(0, 0)
	if l, n, e := glider.Energy(v, span(99, 200), headings(8)); e != api.ErrLost || n != 0 || len(l) != 0 {
		t.Error(l, n, e)
	}
	if l, n, e := glider.Energy(v, span(100, 200), headings(8, 8)); e != api.OK || n != 2 || !slices.Equal(l, []api.Span{span(100, 200), span(100, 200)}) {
		t.Error(l, n, e)
	}
	const most = api.MaxEnergy
	v = api.Vehicle{Dive: 1, Use: span(0, most), Drift: span(most, most)}
	if l, n, e := glider.Energy(v, span(most, most), headings(5)); e != api.OK || n != 1 || !slices.Equal(l, []api.Span{span(0, most)}) {
		t.Error(l, n, e)
	}
	if l, n, e := glider.Energy(v, span(0, most), headings(8)); e != api.ErrLost || n != 0 || len(l) != 0 {
		t.Error(l, n, e)
	}
}

// P3.5: energies are those that the chapter defines.
func TestEnergyTrials(t *testing.T) {
	ends := map[api.Errno]int{}
	trials(t, 3000, func(r *rand.Rand, x trial) {
		want, m, f := energyOf(x.v, x.energy, x.plan)
		l, n, e := glider.Energy(x.v, x.energy, x.plan)
		if e != f || n != m || !slices.Equal(l, want) {
			t.Error(x, "gives", l, n, e, "not", want, m, f)
		}
		ends[e]++
	})
	if ends[api.OK] < 300 || ends[api.ErrLost] < 300 {
		t.Error(ends)
	}
}

// P3.5: energies and plans that are not valid; any layer from 0 on is, as there
// is no sea.
func TestEnergyErrors(t *testing.T) {
	_, v := example()
	for _, a := range badSpans() {
		for _, plan := range [][]api.Course{nil, headings(0), headings(-1), make([]api.Course, 65)} {
			if l, n, e := glider.Energy(v, a, plan); e != api.ErrArg || n != 0 || len(l) != 0 {
				t.Error(a, l, n, e)
			}
		}
		if n, e := glider.Lasts(v, a); e != api.ErrArg || n != 0 {
			t.Error(a, n, e)
		}
	}
	for _, c := range []api.Course{
		{Heading: -1}, {Heading: 9}, {Heading: math.MinInt}, {Heading: math.MaxInt},
		{Layer: -1}, {Layer: math.MinInt}, {Heading: -1, Layer: -1},
	} {
		if l, n, e := glider.Energy(v, span(100, 100), []api.Course{{}, c}); e != api.ErrArg || n != 0 || len(l) != 0 {
			t.Error(c, l, n, e)
		}
	}
	for _, layer := range []int{0, 1, 2, 3, 1 << 40, math.MaxInt} {
		if l, n, e := glider.Energy(v, span(300, 300), []api.Course{{Layer: layer}}); e != api.OK || n != 1 || len(l) != 1 {
			t.Error(layer, l, n, e)
		}
	}
	many := slices.Repeat(headings(8), 65)
	v.Drift = span(0, 0)
	if l, n, e := glider.Energy(v, span(100, 300), many[:64]); e != api.OK || n != 64 || len(l) != 64 {
		t.Error(l, n, e)
	}
	many[0].Heading = 9
	for _, a := range []api.Span{span(300, 300), span(0, 0)} {
		if l, n, e := glider.Energy(v, a, many); e != api.ErrMany || n != 0 || len(l) != 0 {
			t.Error(l, n, e)
		}
	}
}

// P3.5: how many dives keep the reserve.
func TestLasts(t *testing.T) {
	const most = api.MaxEnergy
	for _, x := range []struct {
		use, drift api.Span
		reserve    int64
		e          api.Span
		want       int64
		err        api.Errno
	}{
		{span(50, 60), span(5, 6), 100, span(279, 999), 2, api.OK},
		{span(50, 60), span(5, 6), 100, span(280, 280), 3, api.OK},
		{span(50, 60), span(5, 6), 100, span(100, 999), 0, api.OK},
		{span(50, 60), span(5, 6), 100, span(99, 999), 0, api.ErrLost},
		{span(5, 6), span(50, 60), 100, span(280, 280), 3, api.OK},
		{span(0, 0), span(1, 7), 0, span(20, 20), 2, api.OK},
		{span(1, 7), span(0, 0), 0, span(20, 20), 2, api.OK},
		{span(0, 1), span(0, 0), 0, span(most, most), most, api.OK},
		{span(0, most), span(0, 0), 0, span(most, most), 1, api.OK},
		{span(0, 0), span(0, 0), 100, span(100, 999), 0, api.ErrOver},
		{span(0, 0), span(0, 0), 100, span(99, 999), 0, api.ErrLost},
		{span(0, 0), span(0, 0), most, span(most, most), 0, api.ErrOver},
		{span(0, 1), span(0, 1), most, span(most, most), 0, api.OK},
	} {
		v := api.Vehicle{Dive: 1, Use: x.use, Drift: x.drift, Reserve: x.reserve}
		if n, e := glider.Lasts(v, x.e); n != x.want || e != x.err {
			t.Error(x, n, e)
		}
	}
}

// P3.14: as many dives as Lasts returns keep the reserve, whatever they take;
// one more does not if it takes the most each time.
func TestLastsKeeps(t *testing.T) {
	lasting := 0
	trials(t, 3000, func(r *rand.Rand, x trial) {
		n, e := glider.Lasts(x.v, x.energy)
		if e != api.OK || n > 63 {
			return
		}
		lasting++
		left := x.energy.Lo
		for range n {
			a := []api.Span{x.v.Use, x.v.Drift}[r.Intn(2)]
			left -= a.Lo + r.Int63n(a.Hi-a.Lo+1)
		}
		if left < x.v.Reserve {
			t.Error(x.v, x.energy, n, left)
		}
		hungry := 0
		if x.v.Drift.Hi > x.v.Use.Hi {
			hungry = 8
		}
		plan := slices.Repeat(headings(hungry), int(n)+1)
		if _, m, e := glider.Energy(x.v, x.energy, plan); e != api.ErrLost || m != int(n) {
			t.Error(x.v, x.energy, n, m, e)
		}
		if _, _, e := glider.Energy(x.v, x.energy, plan[:n]); e != api.OK {
			t.Error(x.v, x.energy, n, e)
		}
	})
	if lasting < 500 {
		t.Error("too few:", lasting)
	}
}
