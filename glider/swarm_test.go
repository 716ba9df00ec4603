package glider_test

import (
	"math/rand"
	"slices"
	"testing"

	"isobath/api"
	"isobath/glider"
)

// P3.11: the chapter's example.
func TestVisitedExample(t *testing.T) {
	s, v := example()
	run, _, _ := glider.Run(s, v, at(2000, 2000), 0, headings(2))
	want := make([]api.Answer, 16)
	want[10], want[6] = api.Yes, api.Yes
	if l, e := glider.Visited(s, [][]api.Box{run}); e != api.OK || !slices.Equal(l, want) {
		t.Error(l, e)
	}
}

// P3.11: the cells of boxes, those that they lie in and those that they touch.
func TestVisited(t *testing.T) {
	s := still(3, 2, 1000, 100, 1, 1)
	const no, open, yes = api.No, api.Open, api.Yes
	const far = api.MaxPlace
	for _, x := range []struct {
		name string
		runs [][]api.Box
		want []api.Answer
	}{
		{"nil", nil, make([]api.Answer, 6)},
		{"no run", [][]api.Box{}, make([]api.Answer, 6)},
		{"no box", [][]api.Box{nil, {}, nil}, make([]api.Answer, 6)},
		{"a point", [][]api.Box{{at(1500, 500)}}, []api.Answer{no, yes, no, no, no, no}},
		{"a point on a corner", [][]api.Box{{at(1000, 1000)}}, []api.Answer{yes, yes, no, yes, yes, no}},
		{"a point on the border of the sea", [][]api.Box{{at(3000, 1500)}}, []api.Answer{no, no, no, no, no, yes}},
		{"a cell", [][]api.Box{{area(1000, 2000, 0, 1000)}}, []api.Answer{open, yes, open, open, open, open}},
		{"inside of a cell", [][]api.Box{{area(1001, 1999, 1, 999)}}, []api.Answer{no, yes, no, no, no, no}},
		{"two cells", [][]api.Box{{area(1001, 2001, 1, 999)}}, []api.Answer{no, open, open, no, no, no}},
		{"not along Y", [][]api.Box{{area(1001, 2001, 1001, 1999)}}, []api.Answer{no, no, no, no, open, open}},
		{"all", [][]api.Box{{area(-far, far, -far, far)}}, []api.Answer{open, open, open, open, open, open}},
		{"outside", [][]api.Box{{at(3001, 500), at(-1, 500), at(500, -1), at(500, 2001)}}, make([]api.Answer, 6)},
		{"in two boxes", [][]api.Box{{area(500, 1500, 5, 5), at(1500, 5)}}, []api.Answer{open, yes, no, no, no, no}},
		{"in two boxes, the other order", [][]api.Box{{at(1500, 5), area(500, 1500, 5, 5)}}, []api.Answer{open, yes, no, no, no, no}},
		{"in two runs", [][]api.Box{{area(500, 1500, 5, 5)}, {at(1500, 5)}}, []api.Answer{open, yes, no, no, no, no}},
		{"in two runs, the other order", [][]api.Box{{at(1500, 5)}, nil, {area(500, 1500, 5, 5)}}, []api.Answer{open, yes, no, no, no, no}},
	} {
		if l, e := glider.Visited(s, x.runs); e != api.OK || !slices.Equal(l, x.want) {
			t.Error(x.name, l, e)
		}
	}
}

// P3.11: as many runs and boxes as there can be, which are more than one list
// of answers can have, and more than that.
func TestVisitedMany(t *testing.T) {
	s := still(3, 2, 1000, 100, 1, 1)
	run := slices.Repeat([]api.Box{at(-500, 500)}, 65)
	runs := slices.Repeat([][]api.Box{run[:64]}, 9)
	if l, e := glider.Visited(s, runs[:8]); e != api.OK || !slices.Equal(l, make([]api.Answer, 6)) {
		t.Error(l, e)
	}
	runs[7] = append(slices.Clone(run[:63]), at(500, 500))
	if l, e := glider.Visited(s, runs[:8]); e != api.OK || !slices.Equal(l, []api.Answer{api.Yes, 0, 0, 0, 0, 0}) {
		t.Error(l, e)
	}
	bad := func(runs [][]api.Box, want api.Errno) {
		t.Helper()
		if l, e := glider.Visited(s, runs); e != want || len(l) != 0 {
			t.Error(len(runs), l, e)
		}
	}
	bad(runs, api.ErrMany)
	bad(make([][]api.Box, 9), api.ErrMany)
	bad([][]api.Box{run}, api.ErrMany)
	bad([][]api.Box{nil, run[:3], run}, api.ErrMany)
	for _, b := range badBoxes() {
		bad([][]api.Box{{b}}, api.ErrArg)
		bad([][]api.Box{run[:3], nil, {run[0], b}}, api.ErrArg)
		// All lengths come before the boxes (R1).
		bad([][]api.Box{{b}, run}, api.ErrMany)
		bad([][]api.Box{append([]api.Box{b}, run[:64]...)}, api.ErrMany)
		bad([][]api.Box{{b}, nil, nil, nil, nil, nil, nil, nil, nil}, api.ErrMany)
	}
}

// P3.11 and P3.17: each answer is the one that the chapter defines; with
// another run none becomes less.
func TestVisitedTrials(t *testing.T) {
	trials(t, 1500, func(r *rand.Rand, x trial) {
		var runs [][]api.Box
		last := make([]api.Answer, x.s.NX*x.s.NY)
		for range 1 + r.Intn(8) {
			run, _, _ := glider.Run(x.s, x.v, x.b, x.t, somePlan(r, x.s, 4))
			runs = append(runs, run)
			l, e := glider.Visited(x.s, runs)
			if e != api.OK || len(l) != len(last) {
				t.Fatal(x, runs, l, e)
			}
			for c, a := range l {
				want := api.No
				for _, b := range slices.Concat(runs...) {
					want = max(want, isIn(b, cellOf(x.s, c%x.s.NX, c/x.s.NX)))
				}
				if a != want || a < last[c] {
					t.Error(x, runs, c, a, want, last[c])
				}
			}
			last = l
		}
	})
}

// P3.17: a vehicle that sails was in each cell whose answer is Yes, and in none
// whose answer is No, at the end of a dive.
func TestSwarm(t *testing.T) {
	yes, no := 0, 0
	trials(t, 400, func(r *rand.Rand, x trial) {
		run, _, e := glider.Run(x.s, x.v, x.b, x.t, x.plan)
		if e != api.OK {
			return
		}
		l, _ := glider.Visited(x.s, [][]api.Box{run})
		was := make([]bool, len(l))
		px, py, now := x.b.X.Lo*1000000, x.b.Y.Hi*1000000, x.t
		for _, c := range x.plan {
			px, py = sail(r, x.s, x.v, px, py, now, c)
			now += x.v.Dive
			for i := range was {
				was[i] = was[i] || holds(cellOf(x.s, i%x.s.NX, i/x.s.NX), px, py)
			}
		}
		for i, a := range l {
			switch {
			case a == api.Yes && was[i]:
				yes++
			case a == api.No && !was[i]:
				no++
			case a != api.Open:
				t.Error(x, run, i, a, px, py)
			}
		}
	})
	if yes < 50 || no < 50 {
		t.Error(yes, no)
	}
}
