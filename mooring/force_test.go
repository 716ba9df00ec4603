package mooring_test

import (
	"reflect"
	"slices"
	"testing"

	"isobath/api"
	"isobath/mooring"
)

// The chapter's examples, and the second one of DOC.md.
func TestExamples(t *testing.T) {
	m, c := example()
	w := said(t, m, c, false)
	want := told{
		lifts:    []int64{1000, 800},
		forces:   []api.Span{span(0, 400), span(25, 25)},
		pulls:    []api.Span{span(0, 400), span(25, 425)},
		tensions: []api.Span{span(1000, 1078), span(800, 906)},
		offsets:  []api.Span{span(0, 0), span(249, 3757)},
		rises:    []api.Span{span(0, 0), span(7064, 8000)},
		top:      span(2000, 2936),
		knock:    span(0, 936),
		circle:   3757,
		strong:   []api.Answer{api.Yes, api.Yes},
		holds:    api.Yes,
	}
	if !reflect.DeepEqual(w, want) {
		t.Error(w)
	}
	if l, e := mooring.Pulls(m, c, true); e != api.OK || !slices.Equal(l, []api.Span{span(0, 400), span(0, 425)}) {
		t.Error(l, e)
	}
}

// P2.2 to P2.4: all results are those that the chapter defines.
func TestAsTold(t *testing.T) {
	trials(t, func(m api.Mooring, c []api.Span, free bool) {
		if w, want := said(t, m, c, free), tell(m, c, free); !reflect.DeepEqual(w, want) {
			t.Fatal(m, c, free, "gives", w, "not", want)
		}
	})
}

// P2.2: a force is rounded outward at both ends.
func TestForces(t *testing.T) {
	for _, x := range []struct {
		drag        int64
		speed, want api.Span
	}{
		{0, span(0, 3000), span(0, 0)},
		{1, span(0, 0), span(0, 0)},
		{1, span(0, 1), span(0, 1)},
		{1, span(1, 999), span(0, 1)},
		{1, span(1000, 1000), span(1, 1)},
		{1, span(1000, 1001), span(1, 2)},
		{1, span(1001, 1414), span(1, 2)},
		{1, span(1415, 2000), span(2, 4)},
		{400, span(50, 100), span(1, 4)},
		{400, span(49, 101), span(0, 5)},
		{api.MaxDrag, span(3000, 3000), span(589824, 589824)},
		{api.MaxDrag, span(2999, 3000), span(589430, 589824)},
	} {
		m, c := single(api.Element{Drag: x.drag, Strength: 1})
		c[0] = x.speed
		if l, e := mooring.Forces(m, c); e != api.OK || !slices.Equal(l, []api.Span{x.want}) {
			t.Error(x, l, e)
		}
	}
}

// P2.2: with free directions one force can outweigh all others, or none can.
func TestFreePulls(t *testing.T) {
	for _, x := range []struct {
		forces []api.Span // in N, as currents of whole m/s give them
		want   []api.Span
	}{
		{[]api.Span{span(4, 9)}, []api.Span{span(4, 9)}},
		{[]api.Span{span(9, 9), span(1, 4)}, []api.Span{span(9, 9), span(5, 13)}},
		{[]api.Span{span(1, 4), span(9, 9)}, []api.Span{span(1, 4), span(5, 13)}},
		{[]api.Span{span(4, 4), span(4, 4)}, []api.Span{span(4, 4), span(0, 8)}},
		{[]api.Span{span(1, 1), span(9, 9), span(4, 4), span(4, 4)}, []api.Span{span(1, 1), span(8, 10), span(4, 14), span(0, 18)}},
		{[]api.Span{span(0, 9), span(4, 4)}, []api.Span{span(0, 9), span(0, 13)}},
		{[]api.Span{span(0, 1), span(0, 1), span(9, 9)}, []api.Span{span(0, 1), span(0, 2), span(7, 11)}},
	} {
		m, _ := single(api.Element{Lift: 1, Drag: 1, Strength: 1})
		m.Elements = slices.Repeat(m.Elements, len(x.forces))
		var c []api.Span
		for _, f := range x.forces {
			root := map[int64]int64{0: 0, 1: 1000, 4: 2000, 9: 3000}
			c = append(c, span(root[f.Lo], root[f.Hi]))
		}
		if l, e := mooring.Pulls(m, c, true); e != api.OK || !slices.Equal(l, x.want) {
			t.Error(x, l, e)
		}
	}
}

// badCurrents returns currents for three elements that are not valid, with
// their errors.
func badCurrents() map[string]struct {
	c []api.Span
	e api.Errno
} {
	type bad = struct {
		c []api.Span
		e api.Errno
	}
	a := span(100, 200)
	l := map[string]bad{
		"nil":               {nil, api.ErrEqual},
		"too few":           {[]api.Span{a, a}, api.ErrEqual},
		"too many":          {[]api.Span{a, a, a, a}, api.ErrEqual},
		"too few, turned":   {[]api.Span{span(2, 1), a}, api.ErrEqual},
		"too many, too low": {[]api.Span{span(-1, 1), a, a, a}, api.ErrEqual},
	}
	for i := range 3 {
		for name, b := range map[string]api.Span{
			"turned": span(2, 1), "too low": span(-1, 5), "all too low": span(-7, -5),
			"too high": span(0, api.MaxSpeed+1), "all too high": span(api.MaxSpeed+1, api.MaxSpeed+2),
			"wide": span(wildNumbers()[0], wildNumbers()[7]), "lowest": span(wildNumbers()[0], 0),
			"highest": span(5, wildNumbers()[7]), "turned and wide": span(wildNumbers()[7], wildNumbers()[0]),
		} {
			c := []api.Span{a, a, a}
			c[i] = b
			l[name+" "+string(rune('0'+i))] = bad{c, api.ErrArg}
		}
	}
	return l
}

// P2.2 to P2.4, R1 and R2: the errors of currents, also before ErrState.
func TestBadCurrents(t *testing.T) {
	standing, _ := ofThree()
	lying := kept(standing)
	lying.Elements[2].Lift = -800
	for _, m := range []api.Mooring{standing, lying} {
		for name, x := range badCurrents() {
			for _, free := range []bool{false, true} {
				w, l := say(m, x.c, free)
				w.lifts = nil
				for i, e := range l[1:] {
					if e != x.e {
						t.Error(name, "call", i+1, e)
					}
				}
				if !w.nothing() {
					t.Error(name, w)
				}
			}
		}
	}
}

// P2.2 to P2.4: currents at their limits are valid.
func TestCurrentsAtLimits(t *testing.T) {
	m, _ := ofThree()
	said(t, m, []api.Span{span(0, api.MaxSpeed), span(0, 0), span(api.MaxSpeed, api.MaxSpeed)}, false)
}

// P2.2 to P2.4: whether a mooring stands, which Forces and Pulls do not need.
func TestStanding(t *testing.T) {
	for _, x := range []struct {
		lifts  []int64
		stands bool
	}{
		{[]int64{1}, true},
		{[]int64{0}, false},
		{[]int64{-1}, false},
		{[]int64{5, -4}, true},
		{[]int64{5, -5}, false},
		{[]int64{5, -5, 7}, false},
		{[]int64{0, 7}, false},
		{[]int64{-1, 7, 7}, false},
		{[]int64{5, -3, -1, 20}, true},
		{[]int64{5, -3, -1, -1, 20}, false},
	} {
		m, _ := single(api.Element{})
		m.Elements = nil
		var c []api.Span
		for _, lift := range x.lifts {
			m.Elements = append(m.Elements, api.Element{Length: 9, Lift: lift, Drag: 1, Strength: 9})
			c = append(c, span(1000, 2000))
		}
		if x.stands {
			said(t, m, c, true)
			continue
		}
		w, l := say(m, c, true)
		want := append(make([]api.Errno, 3), slices.Repeat([]api.Errno{api.ErrState}, 7)...)
		if !slices.Equal(l, want) || len(w.forces) != len(c) || len(w.pulls) != len(c) {
			t.Error(x, l, w)
		}
		w.lifts, w.forces, w.pulls = nil, nil, nil
		if !w.nothing() {
			t.Error(x, w)
		}
	}
}

// R5 and R10: no call changes an argument, equal calls are equal, and results
// share no memory.
func TestAgain(t *testing.T) {
	m, c := ofThree()
	before, currents := kept(m), slices.Clone(c)
	w := said(t, m, c, true)
	if !equal(m, before) || !slices.Equal(c, currents) {
		t.Error(m, c)
	}
	want := tell(m, c, true)
	for _, l := range [][]api.Span{w.forces, w.pulls, w.tensions, w.offsets, w.rises} {
		for i := range l {
			l[i].Lo--
		}
		_ = append(l, api.Span{})
	}
	for i := range w.strong {
		w.lifts[i], w.strong[i] = -1, -1
	}
	if again := said(t, m, c, true); !reflect.DeepEqual(again, want) {
		t.Error(again, want)
	}
}
