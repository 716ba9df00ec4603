package glider_test

import (
	"math"
	"math/rand"
	"slices"
	"testing"

	"isobath/api"
	"isobath/glider"
)

// P3.1: each number of a sea may be at its limits, and not beyond them.
func TestCheckSeaNumbers(t *testing.T) {
	fit := func(s *api.Sea) {
		n := s.NX * s.NY
		s.Shores, s.Currents = make([]bool, n), make([]api.Current, n*s.Slots*s.Layers)
	}
	for name, x := range map[string]struct {
		put      func(s *api.Sea, x int64)
		from, to int64
	}{
		"NX":     {func(s *api.Sea, x int64) { s.NX = int(x) }, 1, 12},
		"NY":     {func(s *api.Sea, x int64) { s.NY = int(x) }, 1, 12},
		"Cell":   {func(s *api.Sea, x int64) { s.Cell = x }, 100, 1 << 16},
		"Slot":   {func(s *api.Sea, x int64) { s.Slot = x }, 1, 1 << 20},
		"Slots":  {func(s *api.Sea, x int64) { s.Slots = int(x) }, 1, 16},
		"Layers": {func(s *api.Sea, x int64) { s.Layers = int(x) }, 1, 3},
		"Most":   {func(s *api.Sea, x int64) { s.Most = x }, 0, 5000},
	} {
		for _, y := range []int64{x.from, x.from + 1, x.to - 1, x.to} {
			s := still(4, 4, 1000, 10000, 1, 1)
			x.put(&s, y)
			fit(&s)
			if e := glider.CheckSea(s); e != api.OK {
				t.Error(name, y, e)
			}
		}
		for _, y := range append(wildNumbers(), x.from-1, x.to+1, -x.to) {
			s := still(4, 4, 1000, 10000, 1, 1)
			x.put(&s, y)
			// Just beyond a limit only the number is wrong, not the lists.
			if y == x.from-1 || y == x.to+1 {
				fit(&s)
			}
			if e := glider.CheckSea(s); e != api.ErrArg {
				t.Error(name, y, e)
			}
		}
	}
}

// P3.1: how many shores and currents there are.
func TestCheckSeaLists(t *testing.T) {
	for _, n := range []int{0, 1, 5, 6, 7, 12} {
		for _, m := range []int{0, 6, 12, 23, 24, 25, 48} {
			s := still(3, 2, 1000, 100, 2, 2)
			s.Shores, s.Currents = make([]bool, n), make([]api.Current, m)
			want := api.ErrArg
			if n == 6 && m == 24 {
				want = api.OK
			}
			if e := glider.CheckSea(s); e != want {
				t.Error(n, m, e)
			}
		}
	}
	if e := glider.CheckSea(api.Sea{}); e != api.ErrArg {
		t.Error(e)
	}
	// Lengths that would be right after an overflow.
	s := still(1, 1, 1000, 100, 1, 1)
	s.NX, s.NY, s.Shores = math.MinInt, 2, nil
	if e := glider.CheckSea(s); e != api.ErrArg {
		t.Error(e)
	}
}

// P3.1: each current of a sea is valid, with amounts of at most Most.
func TestCheckSeaCurrents(t *testing.T) {
	for i := range 24 {
		for _, along := range []bool{true, false} {
			put := func(a api.Span, want api.Errno) {
				t.Helper()
				s := still(3, 2, 1000, 100, 2, 2)
				s.Most = 70
				if along {
					s.Currents[i].U = a
				} else {
					s.Currents[i].V = a
				}
				if e := glider.CheckSea(s); e != want {
					t.Error(i, along, a, e)
				}
			}
			for _, a := range []api.Span{span(-70, 70), span(70, 70), span(-70, -70), span(-3, 5)} {
				put(a, api.OK)
			}
			for _, a := range []api.Span{
				span(-71, 0), span(0, 71), span(71, 71), span(-71, -71), span(5, 4), span(70, -70),
				span(math.MinInt64, math.MaxInt64), span(math.MinInt64, 0), span(0, math.MaxInt64), span(math.MaxInt64, math.MinInt64),
			} {
				put(a, api.ErrArg)
			}
		}
	}
}

// P3.1: each number of a vehicle may be at its limits, and not beyond them.
func TestCheckVehicle(t *testing.T) {
	_, good := example()
	for name, x := range map[string]struct {
		put      func(v *api.Vehicle, x int64)
		from, to int64
	}{
		"Speed":   {func(v *api.Vehicle, x int64) { v.Speed = x }, 0, 5000},
		"Dive":    {func(v *api.Vehicle, x int64) { v.Dive = x }, 1, 1 << 17},
		"Use":     {func(v *api.Vehicle, x int64) { v.Use = span(x, x) }, 0, 1 << 30},
		"Drift":   {func(v *api.Vehicle, x int64) { v.Drift = span(x, x) }, 0, 1 << 30},
		"Reserve": {func(v *api.Vehicle, x int64) { v.Reserve = x }, 0, 1 << 30},
	} {
		try := func(y int64, want api.Errno) {
			v := good
			x.put(&v, y)
			if e := glider.CheckVehicle(v); e != want {
				t.Error(name, y, e)
			}
		}
		for _, y := range []int64{x.from, x.from + 1, x.to - 1, x.to} {
			try(y, api.OK)
		}
		for _, y := range append(wildNumbers(), x.from-1, x.to+1) {
			try(y, api.ErrArg)
		}
	}
	for _, a := range badSpans() {
		use, drift := good, good
		use.Use, drift.Drift = a, a
		if e, f := glider.CheckVehicle(use), glider.CheckVehicle(drift); e != api.ErrArg || f != api.ErrArg {
			t.Error(a, e, f)
		}
	}
	good.Use, good.Drift = span(0, 1<<30), span(0, 1<<30)
	if e := glider.CheckVehicle(good); e != api.OK {
		t.Error(e)
	}
}

// numbered returns a sea in which each current has numbers of its own.
func numbered() api.Sea {
	s := still(3, 2, 1000, 100, 2, 2)
	s.Most = 5000
	for i := range s.Currents {
		n := int64(i + 1)
		s.Currents[i] = api.Current{U: span(10*n, 10*n+1), V: span(-20*n, -10*n)}
	}
	return s
}

// P3.2: the cells that a box touches, also those that it has only a border or
// a corner in common with, and the slots and the layer of the times.
func TestAt(t *testing.T) {
	s := numbered()
	for _, x := range []struct {
		name        string
		b           api.Box
		layer       int
		from, to    int64
		first, last int64 // the currents with the least and the greatest numbers
	}{
		{"inside of the first cell", area(1, 999, 1, 999), 0, 0, 1, 1, 1},
		{"inside of the last cell", area(2001, 2999, 1001, 1999), 0, 0, 1, 6, 6},
		{"a point", at(1500, 1500), 0, 0, 1, 5, 5},
		{"a point on a border along X", at(1500, 1000), 0, 0, 1, 2, 5},
		{"a point on a border along Y", at(1000, 500), 0, 0, 1, 1, 2},
		{"a point on a corner", at(2000, 1000), 0, 0, 1, 2, 6},
		{"a corner of the sea", at(0, 0), 0, 0, 1, 1, 1},
		{"the other corner of the sea", at(3000, 2000), 0, 0, 1, 6, 6},
		{"up to the next cell", area(1001, 2000, 1, 999), 0, 0, 1, 2, 3},
		{"from the next cell", area(1000, 1999, 1, 999), 0, 0, 1, 1, 2},
		{"just not the next cells", area(1001, 1999, 1001, 1999), 0, 0, 1, 5, 5},
		{"a column", area(1500, 1500, 0, 2000), 0, 0, 1, 2, 5},
		{"a row", area(0, 3000, 1500, 1500), 0, 0, 1, 4, 6},
		{"the sea", area(0, 3000, 0, 2000), 0, 0, 1, 1, 6},
		{"the other layer", area(0, 3000, 0, 2000), 1, 0, 1, 7, 12},
		{"the last second of a slot", at(1, 1), 0, 99, 100, 1, 1},
		{"the first second of a slot", at(1, 1), 0, 100, 101, 13, 13},
		{"without the first second of a slot", at(1, 1), 0, 0, 100, 1, 1},
		{"with the first second of a slot", at(1, 1), 0, 99, 101, 1, 13},
		{"the last second", at(1, 1), 1, 199, 200, 19, 19},
		{"all seconds", at(1, 1), 1, 0, 200, 7, 19},
		{"all", area(0, 3000, 0, 2000), 1, 0, 200, 7, 24},
	} {
		want := api.Current{U: span(10*x.first, 10*x.last+1), V: span(-20*x.last, -10*x.first)}
		if c, e := glider.At(s, x.b, x.layer, x.from, x.to); e != api.OK || c != want {
			t.Error(x.name, c, e, "not", want)
		}
	}
}

// P3.2: a current with both signs, and one that is nowhere 0.
func TestAtSigns(t *testing.T) {
	s := still(2, 1, 1000, 100, 1, 1)
	s.Most = 9
	s.Currents[0] = api.Current{U: span(3, 5), V: span(-9, -8)}
	s.Currents[1] = api.Current{U: span(4, 7), V: span(-8, -7)}
	want := api.Current{U: span(3, 7), V: span(-9, -7)}
	if c, e := glider.At(s, at(1000, 500), 0, 0, 100); e != api.OK || c != want {
		t.Error(c, e)
	}
}

// P3.2: the current at boxes is the one that the chapter defines.
func TestAtTrials(t *testing.T) {
	trials(t, 1500, func(r *rand.Rand, x trial) {
		wide, high, all := int64(x.s.NX)*x.s.Cell, int64(x.s.NY)*x.s.Cell, int64(x.s.Slots)*x.s.Slot
		b := api.Box{X: someSpan(r, 0, wide), Y: someSpan(r, 0, high)}
		if r.Intn(2) == 0 {
			b.X = span(b.X.Lo/x.s.Cell*x.s.Cell, (b.X.Hi+x.s.Cell-1)/x.s.Cell*x.s.Cell)
		}
		from := r.Int63n(all)
		to, layer := from+1+r.Int63n(all-from), r.Intn(x.s.Layers)
		if c, e := glider.At(x.s, b, layer, from, to); e != api.OK || c != currentAt(x.s, b, layer, from, to) {
			t.Error(x.s, b, layer, from, to, c, e)
		}
	})
}

// P3.2: boxes, layers and times at which there is no current.
func TestAtErrors(t *testing.T) {
	s := numbered()
	try := func(b api.Box, layer int, from, to int64, want api.Errno) {
		t.Helper()
		if c, e := glider.At(s, b, layer, from, to); c != (api.Current{}) || e != want {
			t.Error(b, layer, from, to, c, e)
		}
	}
	for _, b := range badBoxes() {
		try(b, 0, 0, 1, api.ErrArg)
		try(b, 2, 1, 0, api.ErrArg)
	}
	for _, layer := range []int{-1, 2, 3, math.MinInt, math.MaxInt} {
		try(at(1, 1), layer, 0, 1, api.ErrRange)
		try(at(1, 1), layer, 1, 0, api.ErrRange)
		try(at(-1, 1), layer, 0, 1, api.ErrRange)
	}
	for _, x := range []api.Span{
		span(-1, 1), span(0, 0), span(1, 0), span(5, 5), span(math.MinInt64, math.MaxInt64),
		span(math.MaxInt64, math.MinInt64), span(math.MaxInt64, math.MaxInt64), span(math.MinInt64, 1), span(0, math.MinInt64),
	} {
		try(at(1, 1), 0, x.Lo, x.Hi, api.ErrArg)
		try(at(-1, 1), 0, x.Lo, x.Hi, api.ErrArg)
	}
	for _, x := range []api.Span{span(0, 201), span(200, 201), span(0, math.MaxInt64), span(math.MaxInt64-1, math.MaxInt64)} {
		try(at(1, 1), 0, x.Lo, x.Hi, api.ErrNone)
	}
	const far = api.MaxPlace
	for _, b := range []api.Box{
		area(-1, 5, 5, 5), area(5, 3001, 5, 5), area(5, 5, -1, 5), area(5, 5, 5, 2001),
		area(-far, far, -far, far), at(far, far), at(-far, -far), at(5, 2500),
	} {
		try(b, 0, 0, 1, api.ErrNone)
	}
	s.Cell = 99
	try(badBoxes()[0], -1, 0, 0, api.ErrArg)
}

// R5: a sea that is given stays as it is.
func TestSeaUnchanged(t *testing.T) {
	r := rand.New(rand.NewSource(5))
	x := someTrial(r)
	s := clone(x.s)
	glider.At(s, x.b, 0, 0, 1)
	glider.Run(s, x.v, x.b, x.t, x.plan)
	glider.Best(s, x.v, x.b, x.t, x.energy, x.p, 2)
	glider.Reach(s, x.v, x.b, x.t, 3)
	glider.Visited(s, [][]api.Box{{x.b}})
	if !slices.Equal(s.Shores, x.s.Shores) || !slices.Equal(s.Currents, x.s.Currents) {
		t.Error("changed")
	}
}
