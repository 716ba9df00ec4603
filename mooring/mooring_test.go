package mooring_test

import (
	"slices"
	"testing"

	"isobath/api"
	"isobath/mooring"
)

// number is one of the numbers of a mooring, with its least and its greatest
// value.
type number struct {
	name     string
	of       func(m *api.Mooring) *int64
	from, to int64
}

// numbers returns all numbers of a mooring whose elements are at least three.
func numbers() []number {
	l := []number{
		{"depth", func(m *api.Mooring) *int64 { return &m.Depth }, 1, api.MaxPiece},
		{"anchor", func(m *api.Mooring) *int64 { return &m.Anchor }, 0, api.MaxLift},
		{"friction", func(m *api.Mooring) *int64 { return &m.Friction }, 0, 1000},
	}
	for i := range 3 {
		l = append(l,
			number{"length", func(m *api.Mooring) *int64 { return &m.Elements[i].Length }, 0, api.MaxPiece},
			number{"lift", func(m *api.Mooring) *int64 { return &m.Elements[i].Lift }, -api.MaxLift, api.MaxLift},
			number{"drag", func(m *api.Mooring) *int64 { return &m.Elements[i].Drag }, 0, api.MaxDrag},
			number{"strength", func(m *api.Mooring) *int64 { return &m.Elements[i].Strength }, 1, api.MaxStrength})
	}
	return l
}

// ofThree returns a mooring of three elements, and its currents.
func ofThree() (api.Mooring, []api.Span) {
	m, c := example()
	m.Elements = append(m.Elements, api.Element{Length: 50, Lift: -10, Drag: 3, Strength: 900})
	return m, append(c, span(100, 200))
}

// P2.1: each number of a mooring may be at its limits, and not beyond them.
func TestCheckNumbers(t *testing.T) {
	for _, n := range numbers() {
		try := func(x int64, want api.Errno) {
			t.Helper()
			m, _ := ofThree()
			*n.of(&m) = x
			if e := mooring.Check(m); e != want {
				t.Error(n.name, x, e)
			}
		}
		for _, x := range []int64{n.from, n.from + 1, n.to - 1, n.to} {
			try(x, api.OK)
		}
		for _, x := range append(wildNumbers(), n.from-1, n.to+1) {
			try(x, api.ErrArg)
		}
	}
}

// P2.1: how many elements there are, and that this comes first.
func TestCheckElements(t *testing.T) {
	m, _ := example()
	good, bad := m.Elements[0], api.Element{Strength: 0}
	for _, x := range []struct {
		name string
		l    []api.Element
		want api.Errno
	}{
		{"nil", nil, api.ErrArg},
		{"none", []api.Element{}, api.ErrArg},
		{"one", []api.Element{good}, api.OK},
		{"all", slices.Repeat([]api.Element{good}, api.MaxElements), api.OK},
		{"too many", slices.Repeat([]api.Element{good}, api.MaxElements+1), api.ErrMany},
		{"too many, not valid", slices.Repeat([]api.Element{bad}, api.MaxElements+1), api.ErrMany},
		{"the last not valid", append(slices.Repeat([]api.Element{good}, api.MaxElements-1), bad), api.ErrArg},
	} {
		m.Elements = x.l
		if e := mooring.Check(m); e != x.want {
			t.Error(x.name, e)
		}
	}
	m.Elements = slices.Repeat([]api.Element{good}, api.MaxElements+1)
	m.Depth, m.Anchor, m.Friction = 0, -1, 1001
	if e := mooring.Check(m); e != api.ErrMany {
		t.Error("too many, and the rest not valid:", e)
	}
}

// P2.1: a mooring may lie down: Check and Lifts ask only for valid numbers.
func TestLifts(t *testing.T) {
	for _, x := range []struct{ lifts, want []int64 }{
		{[]int64{1000, -200}, []int64{1000, 800}},
		{[]int64{5}, []int64{5}},
		{[]int64{-5, 3, 2, 1}, []int64{-5, -2, 0, 1}},
		{[]int64{0, 0}, []int64{0, 0}},
		{[]int64{7, -7, 9}, []int64{7, 0, 9}},
		{[]int64{-api.MaxLift, -api.MaxLift}, []int64{-api.MaxLift, -2 * api.MaxLift}},
	} {
		m, _ := example()
		m.Elements = nil
		for _, lift := range x.lifts {
			m.Elements = append(m.Elements, api.Element{Lift: lift, Strength: 1})
		}
		if l, e := mooring.Lifts(m); e != api.OK || !slices.Equal(l, x.want) {
			t.Error(x, l, e)
		}
	}
	m, _ := greatest()
	if l, e := mooring.Lifts(m); e != api.OK || len(l) != api.MaxElements || l[39] != 40<<20 {
		t.Error(l, e)
	}
}

// badMoorings returns moorings that are not valid, with their errors.
func badMoorings() map[string]struct {
	m api.Mooring
	e api.Errno
} {
	type bad = struct {
		m api.Mooring
		e api.Errno
	}
	l := map[string]bad{"empty": {api.Mooring{}, api.ErrArg}}
	many, _ := greatest()
	many.Elements = append(many.Elements, api.Element{})
	l["many"] = bad{many, api.ErrMany}
	for _, n := range numbers() {
		low, _ := ofThree()
		*n.of(&low) = n.from - 1
		high, _ := ofThree()
		*n.of(&high) = n.to + 1
		l[n.name+" too low"], l[n.name+" too high"] = bad{low, api.ErrArg}, bad{high, api.ErrArg}
	}
	return l
}

// nothing reports whether results are zero values.
func (w told) nothing() bool {
	return len(w.lifts)+len(w.forces)+len(w.pulls)+len(w.tensions)+len(w.offsets)+len(w.rises)+len(w.strong) == 0 &&
		w.top == api.Span{} && w.knock == api.Span{} && w.circle == 0 && w.holds == api.No
}

// P2.1 to P2.5, R1 and R2: the error of Check comes before all others.
func TestBadMoorings(t *testing.T) {
	for name, x := range badMoorings() {
		for _, c := range [][]api.Span{nil, {span(2, 1)}, {span(0, 5), span(0, 5), span(0, 5)}} {
			w, l := say(x.m, c, true)
			for i, e := range l {
				if e != x.e {
					t.Error(name, "call", i, e)
				}
			}
			if !w.nothing() {
				t.Error(name, w)
			}
		}
		for _, k := range []int{-1, 0, 1, 99} {
			if m, up, e := mooring.Break(x.m, k); e != x.e || up || !equal(m, api.Mooring{}) {
				t.Error(name, k, m, up, e)
			}
		}
	}
}

// P2.5: the chapter's example.
func TestBreakExample(t *testing.T) {
	m, _ := example()
	rest, up, e := mooring.Break(m, 0)
	want := kept(m)
	want.Elements = want.Elements[1:]
	if e != api.OK || !up || !equal(rest, want) {
		t.Error(rest, up, e)
	}
}

// P2.5: which elements there are, and whether the lost part floats.
func TestBreak(t *testing.T) {
	m, _ := example()
	m.Elements = nil
	for i, lift := range []int64{1, -1, -4, 5, 100} {
		m.Elements = append(m.Elements, api.Element{Length: int64(i), Lift: lift, Strength: int64(i) + 1})
	}
	for k, want := range []bool{true, false, false, true} {
		rest, up, e := mooring.Break(m, k)
		others := kept(m)
		others.Elements = others.Elements[k+1:]
		if e != api.OK || up != want || !equal(rest, others) {
			t.Error(k, rest, up, e)
		}
	}
	for k, want := range map[int]api.Errno{-1 << 63: api.ErrRange, -1: api.ErrRange, 4: api.ErrNone, 5: api.ErrRange, 1<<63 - 1: api.ErrRange} {
		if rest, up, e := mooring.Break(m, k); e != want || up || !equal(rest, api.Mooring{}) {
			t.Error(k, rest, up, e)
		}
	}
	one, _ := single(m.Elements[0])
	for k, want := range map[int]api.Errno{-1: api.ErrRange, 0: api.ErrNone, 1: api.ErrRange} {
		if _, _, e := mooring.Break(one, k); e != want {
			t.Error("one element:", k, e)
		}
	}
}

// P2.11: the remaining part has the other elements, as they are, and the lifts
// below them are less by that below k.
func TestBreaking(t *testing.T) {
	trials(t, func(m api.Mooring, _ []api.Span, _ bool) {
		all, _ := mooring.Lifts(m)
		for k := range len(m.Elements) - 1 {
			rest, up, e := mooring.Break(m, k)
			if e != api.OK || !slices.Equal(rest.Elements, m.Elements[k+1:]) {
				t.Fatal(m, k, rest, e)
			}
			if rest.Depth != m.Depth || rest.Anchor != m.Anchor || rest.Friction != m.Friction || !up {
				t.Fatal(m, k, rest, up)
			}
			l, e := mooring.Lifts(rest)
			for i := range l {
				if e != api.OK || l[i] != all[k+1+i]-all[k] {
					t.Fatal(m, k, l, e)
				}
			}
		}
	})
}

// R5: the remaining part shares no memory with the mooring.
func TestBreakShares(t *testing.T) {
	m, _ := ofThree()
	before := kept(m)
	rest, _, _ := mooring.Break(m, 0)
	rest.Elements[0].Length++
	rest.Elements = append(rest.Elements[:1], api.Element{})
	if !equal(m, before) {
		t.Error("the mooring has changed:", m)
	}
	rest, _, _ = mooring.Break(m, 0)
	m.Elements[1].Length++
	if !slices.Equal(rest.Elements, before.Elements[1:]) {
		t.Error("the remaining part has changed:", rest)
	}
}
