package bound_test

import (
	"math"
	"testing"

	"isobath/api"
	"isobath/bound"
)

const place = api.MaxPlace

// box returns a box.
func box(x0, x1, y0, y1 int64) api.Box {
	return api.Box{X: span(x0, x1), Y: span(y0, y1)}
}

// boxes returns all boxes with sides from a list.
func boxes(sides ...api.Span) []api.Box {
	var l []api.Box
	for _, x := range sides {
		for _, y := range sides {
			l = append(l, api.Box{X: x, Y: y})
		}
	}
	return l
}

// badBoxes returns boxes that are not valid.
func badBoxes() []api.Box {
	return []api.Box{
		box(1, 0, 0, 0), box(0, 0, 1, 0),
		box(0, place+1, 0, 0), box(-place-1, 0, 0, 0), box(0, 0, 0, place+1), box(0, 0, -place-1, 0),
		box(0, most+1, 0, 0), box(0, 0, -most-1, 0), box(place+1, place+1, 0, 0), box(0, 0, -place-2, -place-1),
		box(math.MinInt64, math.MaxInt64, 0, 0), box(0, 0, math.MaxInt64, math.MinInt64),
	}
}

// P1.1: CheckBox.
func TestCheckBox(t *testing.T) {
	for _, b := range badBoxes() {
		if e := bound.CheckBox(b); e != api.ErrArg {
			t.Error(b, e)
		}
	}
	for _, b := range []api.Box{{}, box(-place, place, -place, place), box(place, place, -place, -place), box(-3, 4, 5, 5)} {
		if e := bound.CheckBox(b); e != api.OK {
			t.Error(b, e)
		}
	}
}

// points calls f with all points of a box whose coordinates are whole.
func points(b api.Box, f func(x, y int64)) {
	for x := b.X.Lo; x <= b.X.Hi; x++ {
		for y := b.Y.Lo; y <= b.Y.Hi; y++ {
			f(x, y)
		}
	}
}

// P1.12 and P1.18: both ends of Square are the least and the greatest square of
// the distance of two points, and Distance is their root.
func TestSquareDistance(t *testing.T) {
	l := boxes(span(-3, -1), span(-2, -2), span(-1, 1), span(0, 3), span(2, 3), span(5, 5))
	for _, a := range l {
		for _, b := range l {
			least, greatest := int64(math.MaxInt64), int64(0)
			points(a, func(x, y int64) {
				points(b, func(u, v int64) {
					s := (x-u)*(x-u) + (y-v)*(y-v)
					least, greatest = min(least, s), max(greatest, s)
				})
			})
			if lo, hi, e := bound.Square(a, b); lo != least || hi != greatest || e != api.OK {
				t.Fatal(a, b, lo, hi, e)
			}
			if d, e := bound.Distance(a, b); d != rootOf(least, greatest) || e != api.OK {
				t.Fatal(a, b, d, e)
			}
		}
	}
}

// P1.12: the chapter's example, and boxes at the limits.
func TestSquareAtLimits(t *testing.T) {
	for _, x := range []struct {
		a, b   api.Box
		lo, hi int64
		d      api.Span
	}{
		{box(0, 2, 0, 2), box(5, 6, 6, 8), 25, 100, span(5, 10)},
		{box(0, 2, 6, 8), box(5, 6, 0, 2), 25, 100, span(5, 10)},
		{box(-place, -place, -place, -place), box(place, place, place, place), 1 << 59, 1 << 59, span(759250124, 759250125)},
		{box(-place, place, -place, place), box(-place, place, -place, place), 0, 1 << 59, span(0, 759250125)},
		{box(-place, -place, 0, 0), box(place, place, 0, 0), 1 << 58, 1 << 58, span(1<<29, 1<<29)},
		{box(0, 0, -place, -place), box(0, 0, place, place), 1 << 58, 1 << 58, span(1<<29, 1<<29)},
		{box(0, 0, -place, -place), box(0, 1, place-1, place), 1<<58 - 1<<30 + 1, 1<<58 + 1, span(1<<29-1, 1<<29+1)},
	} {
		for _, turned := range []bool{false, true} {
			if turned {
				x.a, x.b = x.b, x.a
			}
			if lo, hi, e := bound.Square(x.a, x.b); lo != x.lo || hi != x.hi || e != api.OK {
				t.Error(x.a, x.b, lo, hi, e)
			}
			if d, e := bound.Distance(x.a, x.b); d != x.d || e != api.OK {
				t.Error(x.a, x.b, d, e)
			}
		}
	}
}

// P1.12 and R2: boxes that are not valid.
func TestSquareErrors(t *testing.T) {
	good := box(3, 4, 5, 6)
	for _, bad := range badBoxes() {
		for _, x := range [][2]api.Box{{bad, good}, {good, bad}, {bad, bad}} {
			if lo, hi, e := bound.Square(x[0], x[1]); lo != 0 || hi != 0 || e != api.ErrArg {
				t.Error(x, lo, hi, e)
			}
			if d, e := bound.Distance(x[0], x[1]); d != (api.Span{}) || e != api.ErrArg {
				t.Error(x, d, e)
			}
		}
	}
}
