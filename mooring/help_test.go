package mooring_test

import (
	"math"
	"math/big"
	"math/rand"
	"slices"
	"testing"

	"isobath/api"
	"isobath/mooring"
)

// span returns a span.
func span(lo, hi int64) api.Span { return api.Span{Lo: lo, Hi: hi} }

// contains tells whether all numbers of b are in a.
func contains(a, b api.Span) bool { return a.Lo <= b.Lo && b.Hi <= a.Hi }

// example returns the mooring of the chapter's examples, and its currents.
func example() (api.Mooring, []api.Span) {
	return api.Mooring{
		Depth: 10000,
		Elements: []api.Element{
			{Length: 0, Lift: 1000, Drag: 400, Strength: 5000},
			{Length: 8000, Lift: -200, Drag: 100, Strength: 2000},
		},
		Anchor:   3000,
		Friction: 500,
	}, []api.Span{span(0, 1000), span(500, 500)}
}

// greatest returns the mooring with all numbers at their limits, and the
// greatest currents.
func greatest() (api.Mooring, []api.Span) {
	x := api.Element{Length: api.MaxPiece, Lift: api.MaxLift, Drag: api.MaxDrag, Strength: api.MaxStrength}
	return api.Mooring{
		Depth:    api.MaxPiece,
		Elements: slices.Repeat([]api.Element{x}, api.MaxElements),
		Anchor:   api.MaxLift,
		Friction: 1000,
	}, slices.Repeat([]api.Span{span(0, api.MaxSpeed)}, api.MaxElements)
}

// single returns a mooring of one element, in still water.
func single(x api.Element) (api.Mooring, []api.Span) {
	return api.Mooring{Depth: 5000, Elements: []api.Element{x}, Anchor: 3000, Friction: 500}, []api.Span{{}}
}

// kept returns a copy of a mooring that shares no memory with it.
func kept(m api.Mooring) api.Mooring {
	m.Elements = slices.Clone(m.Elements)
	return m
}

// equal tells whether two moorings are.
func equal(a, b api.Mooring) bool {
	return a.Depth == b.Depth && a.Anchor == b.Anchor && a.Friction == b.Friction && slices.Equal(a.Elements, b.Elements)
}

// someCurrent returns a span of speeds: narrow, wide, at a limit, or still.
func someCurrent(r *rand.Rand) api.Span {
	switch r.Intn(6) {
	case 0:
		return span(0, 0)
	case 1:
		return span(0, r.Int63n(api.MaxSpeed+1))
	case 2:
		v := r.Int63n(api.MaxSpeed + 1)
		return span(v, v)
	case 3:
		return span(api.MaxSpeed-r.Int63n(50), api.MaxSpeed)
	}
	a, b := r.Int63n(1500), r.Int63n(1500)
	return span(min(a, b), max(a, b))
}

// someMooring returns a mooring that stands, and currents for it.
func someMooring(r *rand.Rand) (api.Mooring, []api.Span) {
	m := api.Mooring{Depth: 1 + r.Int63n(200000), Anchor: r.Int63n(20000), Friction: r.Int63n(1001)}
	var c []api.Span
	lift := int64(0)
	for i := range 1 + r.Intn(7) {
		x := api.Element{
			Length:   r.Int63n(20000),
			Lift:     r.Int63n(2000) - 1000,
			Drag:     r.Int63n(1000),
			Strength: 1 + r.Int63n(6000),
		}
		if i == 0 {
			x.Lift = 1 + r.Int63n(4000)
		}
		x.Lift = max(x.Lift, 1-lift)
		lift += x.Lift
		m.Elements = append(m.Elements, x)
		c = append(c, someCurrent(r))
	}
	return m, c
}

// trials calls f with many moorings that stand, the greatest one among them,
// with currents of the same direction and of free directions.
func trials(t *testing.T, f func(m api.Mooring, c []api.Span, free bool)) {
	t.Helper()
	r := rand.New(rand.NewSource(2))
	for _, free := range []bool{false, true} {
		m, c := greatest()
		f(m, c, free)
		for i := range c {
			c[i] = someCurrent(r)
		}
		f(m, c, free)
		for range 1500 {
			m, c := someMooring(r)
			f(m, c, free)
			if t.Failed() {
				return
			}
		}
	}
}

func whole(x int64) *big.Rat       { return new(big.Rat).SetInt64(x) }
func plus(x, y *big.Rat) *big.Rat  { return new(big.Rat).Add(x, y) }
func minus(x, y *big.Rat) *big.Rat { return new(big.Rat).Sub(x, y) }
func times(x, y *big.Rat) *big.Rat { return new(big.Rat).Mul(x, y) }
func over(x, y *big.Rat) *big.Rat  { return new(big.Rat).Quo(x, y) }
func squared(x *big.Rat) *big.Rat  { return times(x, x) }

// floor rounds down: the quotient of big.Int's Div is, for a divisor above 0.
func floor(x *big.Rat) int64 { return new(big.Int).Div(x.Num(), x.Denom()).Int64() }

// ceil rounds up.
func ceil(x *big.Rat) int64 { return -floor(new(big.Rat).Neg(x)) }

// rootDown returns the square root of h h + v v, rounded down.
func rootDown(h, v int64) int64 {
	s := plus(squared(whole(h)), squared(whole(v)))
	return new(big.Int).Sqrt(s.Num()).Int64()
}

// rootUp returns the square root of h h + v v, rounded up.
func rootUp(h, v int64) int64 {
	r := rootDown(h, v)
	if squared(whole(r)).Cmp(plus(squared(whole(h)), squared(whole(v)))) < 0 {
		r++
	}
	return r
}

// forceAt returns the force on an element at a speed.
func forceAt(drag, speed int64) *big.Rat {
	return over(times(whole(drag), squared(whole(speed))), whole(1000000))
}

// told is what the chapter says of a mooring in currents.
type told struct {
	lifts                                   []int64
	forces, pulls, tensions, offsets, rises []api.Span
	top, knock                              api.Span
	circle                                  int64
	strong                                  []api.Answer
	holds                                   api.Answer
}

// pullOf returns the pull of some forces, as the chapter defines it.
func pullOf(f []api.Span, free bool) api.Span {
	var h api.Span
	for _, a := range f {
		h.Lo, h.Hi = h.Lo+a.Lo, h.Hi+a.Hi
	}
	if free {
		h.Lo = 0
		for j := range f {
			left := f[j].Lo
			for k := range f {
				if k != j {
					left -= f[k].Hi
				}
			}
			h.Lo = max(h.Lo, left)
		}
	}
	return h
}

// tell returns what the chapter says of a mooring that stands.
func tell(m api.Mooring, c []api.Span, free bool) told {
	var w told
	lift, lengths, rises := int64(0), int64(0), api.Span{}
	for i, x := range m.Elements {
		lift += x.Lift
		lengths += x.Length
		w.lifts = append(w.lifts, lift)
		w.forces = append(w.forces, span(floor(forceAt(x.Drag, c[i].Lo)), ceil(forceAt(x.Drag, c[i].Hi))))
		h := pullOf(w.forces, free)
		w.pulls = append(w.pulls, h)
		tension := span(rootDown(h.Lo, lift), rootUp(h.Hi, lift))
		w.tensions = append(w.tensions, tension)
		l := whole(x.Length)
		offset := span(
			floor(over(times(l, whole(h.Lo)), whole(rootUp(h.Lo, lift)))),
			min(x.Length, ceil(over(times(l, whole(h.Hi)), whole(rootDown(h.Hi, lift))))))
		rise := span(
			floor(over(times(l, whole(lift)), whole(rootUp(h.Hi, lift)))),
			min(x.Length, ceil(over(times(l, whole(lift)), whole(rootDown(h.Lo, lift))))))
		w.offsets, w.rises = append(w.offsets, offset), append(w.rises, rise)
		w.circle += offset.Hi
		rises.Lo, rises.Hi = rises.Lo+rise.Lo, rises.Hi+rise.Hi
		w.strong = append(w.strong, strongAt(tension, x.Strength))
	}
	w.top = span(m.Depth-rises.Hi, m.Depth-rises.Lo)
	w.knock = span(lengths-rises.Hi, lengths-rises.Lo)
	w.holds = holdsAt(m, lift, pullOf(w.forces, free))
	return w
}

// strongAt tells whether an element is strong enough.
func strongAt(tension api.Span, strength int64) api.Answer {
	switch {
	case tension.Hi <= strength:
		return api.Yes
	case tension.Lo > strength:
		return api.No
	}
	return api.Open
}

// holdsAt tells whether an anchor holds.
func holdsAt(m api.Mooring, v int64, h api.Span) api.Answer {
	n := m.Friction * (m.Anchor - v)
	switch {
	case v < m.Anchor && 1000*h.Hi <= n:
		return api.Yes
	case v >= m.Anchor || 1000*h.Lo > n:
		return api.No
	}
	return api.Open
}

// say returns what the package says of a mooring in currents, and the errors.
func say(m api.Mooring, c []api.Span, free bool) (told, []api.Errno) {
	var w told
	e := make([]api.Errno, 10)
	w.lifts, e[0] = mooring.Lifts(m)
	w.forces, e[1] = mooring.Forces(m, c)
	w.pulls, e[2] = mooring.Pulls(m, c, free)
	w.tensions, e[3] = mooring.Tensions(m, c, free)
	w.offsets, w.rises, e[4] = mooring.Shape(m, c, free)
	w.top, e[5] = mooring.Top(m, c, free)
	w.circle, e[6] = mooring.Circle(m, c, free)
	w.knock, e[7] = mooring.Knock(m, c, free)
	w.strong, e[8] = mooring.Strong(m, c, free)
	w.holds, e[9] = mooring.Holds(m, c, free)
	return w, e
}

// said returns what the package says of a mooring that stands.
func said(t *testing.T, m api.Mooring, c []api.Span, free bool) told {
	t.Helper()
	w, l := say(m, c, free)
	for i, e := range l {
		if e != api.OK {
			t.Fatal("call", i, m, c, free, "error", e)
		}
	}
	return w
}

// wildNumbers returns numbers far beyond all limits.
func wildNumbers() []int64 {
	return []int64{math.MinInt64, math.MinInt64 + 1, -1 << 62, -1 << 31, 1 << 31, 1 << 62, math.MaxInt64 - 1, math.MaxInt64}
}
