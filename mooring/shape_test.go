package mooring_test

import (
	"math/big"
	"math/rand"
	"slices"
	"testing"

	"isobath/api"
	"isobath/mooring"
)

// P2.2 and P2.3: rounding of one element, worked out by hand.
func TestOneElement(t *testing.T) {
	for _, x := range []struct {
		x                     api.Element
		speed                 api.Span
		tension, offset, rise api.Span
	}{
		// A pull of 4 with a lift of 3: all is whole.
		{api.Element{Length: 10, Lift: 3, Drag: 1}, span(2000, 2000), span(5, 5), span(8, 8), span(6, 6)},
		{api.Element{Length: 11, Lift: 3, Drag: 1}, span(2000, 2000), span(5, 5), span(8, 9), span(6, 7)},
		// A pull of 1 with a lift of 1: the tension is from 1 to 2.
		{api.Element{Length: 10, Lift: 1, Drag: 1}, span(1000, 1000), span(1, 2), span(5, 10), span(5, 10)},
		{api.Element{Length: 9, Lift: 1, Drag: 1}, span(1000, 1000), span(1, 2), span(4, 9), span(4, 9)},
		// A pull of 1 with a lift of 2: 10 * 2 / 2 is 10, but 10 * 1 / 2 is 5.
		{api.Element{Length: 10, Lift: 2, Drag: 1}, span(1000, 1000), span(2, 3), span(3, 5), span(6, 10)},
		// A pull of 1 to 4 with a lift of 3: the squares are 10 and 25.
		{api.Element{Length: 10, Lift: 3, Drag: 1}, span(1000, 2000), span(3, 5), span(2, 8), span(6, 10)},
		// Still water, and an element without length.
		{api.Element{Length: 77, Lift: 5, Drag: 9}, span(0, 0), span(5, 5), span(0, 0), span(77, 77)},
		{api.Element{Length: 0, Lift: 5, Drag: 9}, span(0, 3000), span(5, 82), span(0, 0), span(0, 0)},
	} {
		m, c := single(x.x)
		m.Elements[0].Strength, c[0] = 1, x.speed
		w := said(t, m, c, false)
		if w.tensions[0] != x.tension || w.offsets[0] != x.offset || w.rises[0] != x.rise {
			t.Error(x, w)
		}
		if w.top != span(5000-x.rise.Hi, 5000-x.rise.Lo) || w.circle != x.offset.Hi || w.knock != span(x.x.Length-x.rise.Hi, x.x.Length-x.rise.Lo) {
			t.Error(x, w)
		}
	}
}

// P2.3: a mooring that is longer than its depth may reach above the surface.
func TestLongMooring(t *testing.T) {
	m, c := single(api.Element{Length: 6000, Lift: 1, Strength: 1})
	if top, e := mooring.Top(m, c, false); e != api.OK || top != span(-1000, -1000) {
		t.Error(top, e)
	}
	m, c = greatest()
	for i := range c {
		c[i] = api.Span{}
	}
	w := said(t, m, c, true)
	if w.top != span(-39<<20, -39<<20) || w.knock != (api.Span{}) || w.circle != 0 {
		t.Error(w.top, w.knock, w.circle)
	}
}

// P2.3: Top, Circle and Knock follow from Shape.
func TestFromShape(t *testing.T) {
	trials(t, func(m api.Mooring, c []api.Span, free bool) {
		w := said(t, m, c, free)
		length, circle, rise := int64(0), int64(0), api.Span{}
		for i, x := range m.Elements {
			length, circle = length+x.Length, circle+w.offsets[i].Hi
			rise = span(rise.Lo+w.rises[i].Lo, rise.Hi+w.rises[i].Hi)
		}
		if w.top != span(m.Depth-rise.Hi, m.Depth-rise.Lo) || w.knock != span(length-rise.Hi, length-rise.Lo) || w.circle != circle {
			t.Fatal(m, c, free, w)
		}
	})
}

// between tells whether the square of a number that is not below 0 lies between
// the squares of both ends of such a span, both times n.
func between(a api.Span, square, n *big.Rat) bool {
	lo, hi := squared(whole(a.Lo)), squared(whole(a.Hi))
	return times(lo, n).Cmp(square) <= 0 && square.Cmp(times(hi, n)) <= 0
}

// direction returns a vector of the length 1 whose parts are fractions.
func direction(r *rand.Rand) (*big.Rat, *big.Rat) {
	s := over(whole(r.Int63n(40)), whole(1+r.Int63n(20)))
	d := plus(whole(1), squared(s))
	x, y := over(minus(whole(1), squared(s)), d), over(plus(s, s), d)
	if r.Intn(2) == 0 {
		x = minus(whole(0), x)
	}
	if r.Intn(2) == 0 {
		y = minus(whole(0), y)
	}
	return x, y
}

// P2.8: for speeds within the currents, and directions if they are free, all
// that is true lies in the spans, exactly.
func TestEveryCurrent(t *testing.T) {
	r := rand.New(rand.NewSource(8))
	trials(t, func(m api.Mooring, c []api.Span, free bool) {
		w := said(t, m, c, free)
		dx, dy := direction(r)
		x, y := whole(0), whole(0)
		for i, one := range m.Elements {
			speed := c[i].Lo + r.Int63n(c[i].Hi-c[i].Lo+1)
			f := forceAt(one.Drag, speed)
			if f.Cmp(whole(w.forces[i].Lo)) < 0 || f.Cmp(whole(w.forces[i].Hi)) > 0 {
				t.Fatal(m, c, i, f)
			}
			if free {
				dx, dy = direction(r)
			}
			x, y = plus(x, times(f, dx)), plus(y, times(f, dy))
			h := plus(squared(x), squared(y))
			v := squared(whole(w.lifts[i]))
			n, length := plus(h, v), squared(whole(one.Length))
			if !between(w.pulls[i], h, whole(1)) || !between(w.tensions[i], n, whole(1)) {
				t.Fatal(m, c, free, i, h, n, w)
			}
			if !between(w.offsets[i], times(length, h), n) || !between(w.rises[i], times(length, v), n) {
				t.Fatal(m, c, free, i, h, n, w)
			}
		}
	})
}

// narrower returns spans in some currents.
func narrower(r *rand.Rand, c []api.Span) []api.Span {
	l := slices.Clone(c)
	for i, a := range l {
		x, y := a.Lo+r.Int63n(a.Hi-a.Lo+1), a.Lo+r.Int63n(a.Hi-a.Lo+1)
		switch r.Intn(4) {
		case 0:
			l[i] = span(min(x, y), max(x, y))
		case 1:
			l[i] = span(a.Lo, y)
		case 2:
			l[i] = span(x, a.Hi)
		}
	}
	return l
}

// inside tells whether all spans of the results v lie in those of w, and its
// answers are those of w where these are not Open.
func inside(w, v told) bool {
	in := contains(w.top, v.top) && contains(w.knock, v.knock) && v.circle <= w.circle
	for i := range w.forces {
		in = in && contains(w.forces[i], v.forces[i]) && contains(w.pulls[i], v.pulls[i]) &&
			contains(w.tensions[i], v.tensions[i]) && contains(w.offsets[i], v.offsets[i]) &&
			contains(w.rises[i], v.rises[i]) && stays(w.strong[i], v.strong[i])
	}
	return in && stays(w.holds, v.holds)
}

// stays tells whether an answer Yes or No has stayed.
func stays(before, after api.Answer) bool { return before == api.Open || before == after }

// P2.9: narrower currents give narrower results, and free directions wider ones.
func TestNarrowerCurrents(t *testing.T) {
	r := rand.New(rand.NewSource(9))
	trials(t, func(m api.Mooring, c []api.Span, free bool) {
		w := said(t, m, c, free)
		for range 3 {
			d := narrower(r, c)
			if v := said(t, m, d, free); !inside(w, v) {
				t.Fatal(m, c, d, free, w, v)
			}
		}
		if v, u := said(t, m, c, true), said(t, m, c, false); !inside(v, u) {
			t.Fatal(m, c, v, u)
		}
	})
}

// P2.10: without any current a mooring is upright; with any, no tension is less
// than the lift, and no offset and no rise greater than the length.
func TestBalance(t *testing.T) {
	trials(t, func(m api.Mooring, c []api.Span, free bool) {
		w := said(t, m, c, free)
		still := said(t, m, make([]api.Span, len(c)), free)
		for i, x := range m.Elements {
			lift := w.lifts[i]
			if w.tensions[i].Lo < lift || w.offsets[i].Hi > x.Length || w.rises[i].Hi > x.Length {
				t.Fatal(m, c, free, i, w)
			}
			if still.pulls[i] != (api.Span{}) || still.tensions[i] != span(lift, lift) ||
				still.offsets[i] != (api.Span{}) || still.rises[i] != span(x.Length, x.Length) {
				t.Fatal(m, free, i, still)
			}
		}
	})
}
