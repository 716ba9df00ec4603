package mooring_test

import (
	"slices"
	"testing"

	"isobath/api"
	"isobath/mooring"
)

// P2.4: a strength at both ends of the tension, and beside them.
func TestStrong(t *testing.T) {
	// The pull is from 0 to 4, the tension from 3 to 5.
	for strength, want := range map[int64]api.Answer{1: api.No, 2: api.No, 3: api.Open, 4: api.Open, 5: api.Yes, 6: api.Yes} {
		m, c := single(api.Element{Lift: 3, Drag: 1, Strength: strength})
		c[0] = span(0, 2000)
		if l, e := mooring.Strong(m, c, false); e != api.OK || !slices.Equal(l, []api.Answer{want}) {
			t.Error(strength, l, e)
		}
	}
	// In still water the tension is the lift, so no answer is open.
	for strength, want := range map[int64]api.Answer{2: api.No, 3: api.Yes, 4: api.Yes} {
		m, c := single(api.Element{Lift: 3, Drag: 1, Strength: strength})
		if l, e := mooring.Strong(m, c, true); e != api.OK || !slices.Equal(l, []api.Answer{want}) {
			t.Error(strength, l, e)
		}
	}
}

// P2.4: each element is asked for by itself.
func TestStrongEach(t *testing.T) {
	m, c := ofThree()
	m.Elements[0].Strength, m.Elements[1].Strength, m.Elements[2].Strength = 999, 906, 850
	want := []api.Answer{api.No, api.Yes, api.Open}
	if l, e := mooring.Strong(m, c, false); e != api.OK || !slices.Equal(l, want) {
		t.Error(l, e)
	}
}

// P2.4: whether the anchor holds, where it just does and just does not.
func TestHolds(t *testing.T) {
	for _, x := range []struct {
		name             string
		anchor, friction int64
		lift             int64
		speed            api.Span
		want             api.Answer
	}{
		// The pull is 4 N where it is not said otherwise.
		{"just holds", 11, 500, 3, span(2000, 2000), api.Yes},
		{"just does not", 11, 499, 3, span(2000, 2000), api.No},
		{"too light by 1 N", 10, 500, 3, span(2000, 2000), api.No},
		{"1 to 4 N, all held", 11, 500, 3, span(1000, 2000), api.Yes},
		{"1 to 4 N, not all held", 11, 499, 3, span(1000, 2000), api.Open},
		{"1 to 4 N, just 1 held", 5, 500, 3, span(1000, 2000), api.Open},
		{"1 to 4 N, none held", 5, 499, 3, span(1000, 2000), api.No},
		{"no pull, no friction", 4, 0, 3, span(0, 0), api.Yes},
		{"0 to 4 N, no friction", 4, 0, 3, span(0, 2000), api.Open},
		{"no pull, no weight", 3, 500, 3, span(0, 0), api.No},
		{"no pull, no weight, no friction", 3, 0, 3, span(0, 0), api.No},
		{"0 to 4 N, no weight", 3, 500, 3, span(0, 2000), api.No},
		{"lifted off", 2, 1000, 3, span(0, 0), api.No},
		{"lifted off, no friction", 2, 0, 3, span(0, 0), api.No},
		{"no anchor", 0, 1000, 3, span(0, 2000), api.No},
	} {
		m, c := single(api.Element{Lift: x.lift, Drag: 1, Strength: 1})
		m.Anchor, m.Friction, c[0] = x.anchor, x.friction, x.speed
		if y, e := mooring.Holds(m, c, false); e != api.OK || y != x.want {
			t.Error(x.name, y, e)
		}
	}
}

// P2.4: the lift and the pull at the anchor are those below the last element.
func TestHoldsByAll(t *testing.T) {
	m, c := ofThree()
	for friction, want := range map[int64]api.Answer{0: api.No, 11: api.No, 12: api.Open, 192: api.Open, 193: api.Yes} {
		// The lift is 790, the pull from 25 to 426, the weight 2,210.
		m.Friction = friction
		if y, e := mooring.Holds(m, c, false); e != api.OK || y != want {
			t.Error(friction, y, e)
		}
	}
	m.Friction = 0
	if y, e := mooring.Holds(m, c, true); e != api.OK || y != api.Open {
		t.Error("with free directions nothing may pull:", y, e)
	}
}
