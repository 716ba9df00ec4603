package glider_test

import (
	"math"
	"math/big"
	"math/rand"
	"slices"
	"testing"

	"isobath/api"
)

func span(lo, hi int64) api.Span { return api.Span{Lo: lo, Hi: hi} }

func at(x, y int64) api.Box { return area(x, x, y, y) }

func area(x0, x1, y0, y1 int64) api.Box { return api.Box{X: span(x0, x1), Y: span(y0, y1)} }

// headings returns a plan in the layer 0.
func headings(l ...int) []api.Course {
	var plan []api.Course
	for _, h := range l {
		plan = append(plan, api.Course{Heading: h})
	}
	return plan
}

// still returns a sea of square cells without currents and shores.
func still(nx, ny int, cell, slot int64, slots, layers int) api.Sea {
	return api.Sea{
		NX: nx, NY: ny, Cell: cell, Slot: slot, Slots: slots, Layers: layers,
		Shores:   make([]bool, nx*ny),
		Currents: make([]api.Current, slots*layers*nx*ny),
	}
}

// example returns the sea and the glider of the chapter's examples.
func example() (api.Sea, api.Vehicle) {
	s := still(4, 4, 1000, 10000, 1, 1)
	s.Most = 200
	for i := range s.Currents {
		s.Currents[i].U = span(-100, 100)
	}
	return s, api.Vehicle{Speed: 300, Dive: 1000, Use: span(50, 60), Drift: span(5, 6), Reserve: 100}
}

// examplePickup returns the pickup of the chapter's examples.
func examplePickup() api.Pickup {
	return api.Pickup{Area: area(2100, 2600, 1900, 2100), From: 0, To: 2000}
}

// wildNumbers returns numbers far beyond all limits.
func wildNumbers() []int64 {
	return []int64{math.MinInt64, math.MinInt64 + 1, -1 << 62, -1 << 32, 1 << 32, 1 << 62, math.MaxInt64 - 1, math.MaxInt64}
}

// badSpans returns spans that are not valid ones of numbers from 0 to MaxEnergy.
func badSpans() []api.Span {
	return []api.Span{
		span(1, 0), span(-1, 0), span(-1, -1), span(0, api.MaxEnergy+1), span(api.MaxEnergy+1, api.MaxEnergy+1),
		span(math.MinInt64, math.MaxInt64), span(math.MaxInt64, math.MinInt64), span(math.MinInt64, 0), span(0, math.MaxInt64),
	}
}

// badBoxes returns boxes that are not valid.
func badBoxes() []api.Box {
	var l []api.Box
	for _, a := range []api.Span{
		span(2001, 2000), span(-api.MaxPlace-1, 0), span(0, api.MaxPlace+1),
		span(math.MinInt64, math.MaxInt64), span(math.MaxInt64, math.MinInt64),
		span(math.MinInt64, math.MinInt64), span(math.MaxInt64, math.MaxInt64),
	} {
		l = append(l, api.Box{X: a, Y: span(2000, 2000)}, api.Box{X: span(2000, 2000), Y: a}, api.Box{X: a, Y: a})
	}
	return l
}

// badPickups returns pickups that are not valid.
func badPickups() []api.Pickup {
	var l []api.Pickup
	for _, b := range badBoxes() {
		l = append(l, api.Pickup{Area: b, From: 0, To: 2000})
	}
	for _, a := range append(badSpans()[:5:5], span(math.MinInt64, math.MaxInt64), span(0, math.MaxInt64)) {
		l = append(l, api.Pickup{Area: at(2000, 2000), From: a.Lo, To: a.Hi})
	}
	return l
}

// The chapter's definitions, as they are written: in exact fractions, and with
// a look at every cell and every slot.

// outward returns the span from x to y, rounded outward.
func outward(x, y *big.Rat) api.Span { return span(floor(x), -floor(new(big.Rat).Neg(y))) }

// floor rounds down: the quotient of big.Int's Div is, for a divisor above 0.
func floor(x *big.Rat) int64 { return new(big.Int).Div(x.Num(), x.Denom()).Int64() }

// meet tells whether two boxes have a common point.
func meet(a, b api.Box) bool {
	return a.X.Lo <= b.X.Hi && b.X.Lo <= a.X.Hi && a.Y.Lo <= b.Y.Hi && b.Y.Lo <= a.Y.Hi
}

// contains tells whether a contains all points of b.
func contains(a, b api.Box) bool {
	return a.X.Lo <= b.X.Lo && b.X.Hi <= a.X.Hi && a.Y.Lo <= b.Y.Lo && b.Y.Hi <= a.Y.Hi
}

// isIn returns whether a box is in another one.
func isIn(a, b api.Box) api.Answer {
	switch {
	case contains(b, a):
		return api.Yes
	case meet(a, b):
		return api.Open
	}
	return api.No
}

// cellOf returns the box of the cell (i, k).
func cellOf(s api.Sea, i, k int) api.Box {
	x, y := int64(i)*s.Cell, int64(k)*s.Cell
	return area(x, x+s.Cell, y, y+s.Cell)
}

func wider(a, b api.Span) api.Span { return span(min(a.Lo, b.Lo), max(a.Hi, b.Hi)) }

// inSea tells whether a box is in the sea.
func inSea(s api.Sea, b api.Box) bool {
	return contains(area(0, int64(s.NX)*s.Cell, 0, int64(s.NY)*s.Cell), b)
}

// currentAt returns the current at a box in the sea.
func currentAt(s api.Sea, b api.Box, layer int, from, to int64) api.Current {
	var all []api.Current
	for j := range s.Slots {
		if begin := int64(j) * s.Slot; begin+s.Slot <= from || begin >= to {
			continue
		}
		for k := range s.NY {
			for i := range s.NX {
				if meet(b, cellOf(s, i, k)) {
					all = append(all, s.Currents[(j*s.Layers+layer)*s.NX*s.NY+k*s.NX+i])
				}
			}
		}
	}
	c := all[0]
	for _, x := range all {
		c = api.Current{U: wider(c.U, x.U), V: wider(c.V, x.V)}
	}
	return c
}

// reachOf returns the reach of a dive.
func reachOf(s api.Sea, v api.Vehicle, b api.Box) api.Box {
	by := outward(new(big.Rat), big.NewRat((v.Speed+s.Most)*v.Dive, 1000)).Hi
	return area(b.X.Lo-by, b.X.Hi+by, b.Y.Lo-by, b.Y.Hi+by)
}

// isPossible tells whether a dive is possible.
func isPossible(s api.Sea, v api.Vehicle, b api.Box, t int64) bool {
	return inSea(s, reachOf(s, v, b)) && t+v.Dive <= int64(s.Slots)*s.Slot
}

// isSafe tells whether a possible dive is safe.
func isSafe(s api.Sea, v api.Vehicle, b api.Box) bool {
	for c, shore := range s.Shores {
		if shore && meet(reachOf(s, v, b), cellOf(s, c%s.NX, c/s.NX)) {
			return false
		}
	}
	return true
}

// toward returns the direction of a heading.
func toward(heading int) (x, y int64) {
	switch heading {
	case 0:
		return 0, 1000
	case 1:
		return 707, 707
	case 2:
		return 1000, 0
	case 3:
		return 707, -707
	case 4:
		return 0, -1000
	case 5:
		return -707, -707
	case 6:
		return -1000, 0
	case 7:
		return -707, 707
	}
	return 0, 0
}

// endOf returns the box in which a possible dive ends.
func endOf(s api.Sea, v api.Vehicle, b api.Box, t int64, c api.Course) api.Box {
	x, y := toward(c.Heading)
	w := currentAt(s, reachOf(s, v, b), c.Layer, t, t+v.Dive)
	ends := func(a api.Span, d int64, w api.Span) api.Span {
		end := func(from, current int64) *big.Rat {
			way := big.NewRat((d*v.Speed+1000*current)*v.Dive, 1000000)
			return way.Add(way, new(big.Rat).SetInt64(from))
		}
		return outward(end(a.Lo, w.Lo), end(a.Hi, w.Hi))
	}
	return api.Box{X: ends(b.X, x, w.U), Y: ends(b.Y, y, w.V)}
}

// diveOf returns what Dive returns.
func diveOf(s api.Sea, v api.Vehicle, b api.Box, t int64, c api.Course) (api.Box, api.Errno) {
	switch {
	case !isPossible(s, v, b, t):
		return api.Box{}, api.ErrNone
	case !isSafe(s, v, b):
		return api.Box{}, api.ErrRule
	}
	return endOf(s, v, b, t, c), api.OK
}

// runOf returns what Run returns.
func runOf(s api.Sea, v api.Vehicle, b api.Box, t int64, plan []api.Course) ([]api.Box, int, api.Errno) {
	var boxes []api.Box
	for i, c := range plan {
		end, e := diveOf(s, v, b, t+int64(i)*v.Dive, c)
		if e != api.OK {
			return nil, i, e
		}
		boxes, b = append(boxes, end), end
	}
	return boxes, len(plan), api.OK
}

// energyOf returns what Energy returns.
func energyOf(v api.Vehicle, e api.Span, plan []api.Course) ([]api.Span, int, api.Errno) {
	var l []api.Span
	for i, c := range plan {
		x := v.Use
		if c.Heading == 8 {
			x = v.Drift
		}
		e = span(e.Lo-x.Hi, e.Hi-x.Lo)
		if e.Lo < v.Reserve {
			return nil, i, api.ErrLost
		}
		l = append(l, e)
	}
	return l, len(plan), api.OK
}

// fetchedOf returns what Fetched returns.
func fetchedOf(v api.Vehicle, t int64, boxes []api.Box, p api.Pickup) api.Answer {
	is := api.No
	for i, b := range boxes {
		if end := t + int64(i+1)*v.Dive; p.From <= end && end <= p.To {
			is = max(is, isIn(b, p.Area))
		}
	}
	return is
}

// planOf returns what CheckPlan returns.
func planOf(s api.Sea, v api.Vehicle, b api.Box, t int64, e api.Span, plan []api.Course, p api.Pickup) api.Errno {
	boxes, _, err := runOf(s, v, b, t, plan)
	if err != api.OK {
		return err
	}
	if _, _, err := energyOf(v, e, plan); err != api.OK {
		return err
	}
	if fetchedOf(v, t, boxes, p) != api.Yes {
		return api.ErrDue
	}
	return api.OK
}

// plansOf returns all plans of n courses, in lexicographic order.
func plansOf(layers, n int) [][]api.Course {
	if n == 0 {
		return [][]api.Course{nil}
	}
	var l [][]api.Course
	for _, plan := range plansOf(layers, n-1) {
		for h := range 9 {
			for layer := range layers {
				l = append(l, append(slices.Clone(plan), api.Course{Heading: h, Layer: layer}))
			}
		}
	}
	return l
}

// costOf returns the cost of a plan.
func costOf(v api.Vehicle, plan []api.Course) int64 {
	cost := int64(0)
	for _, c := range plan {
		if c.Heading < 8 {
			cost += v.Use.Hi
		} else {
			cost += v.Drift.Hi
		}
	}
	return cost
}

// hullOf returns the hull of the boxes in which a possible dive ends, for all
// courses.
func hullOf(s api.Sea, v api.Vehicle, b api.Box, t int64) api.Box {
	var all []api.Box
	for _, plan := range plansOf(s.Layers, 1) {
		all = append(all, endOf(s, v, b, t, plan[0]))
	}
	h := all[0]
	for _, x := range all {
		h = api.Box{X: wider(h.X, x.X), Y: wider(h.Y, x.Y)}
	}
	return h
}

// reachesOf returns what Reach returns.
func reachesOf(s api.Sea, v api.Vehicle, b api.Box, t int64, dives int) ([]api.Box, api.Errno) {
	var l []api.Box
	for range dives {
		if !isPossible(s, v, b, t) {
			return nil, api.ErrNone
		}
		b, t = hullOf(s, v, b, t), t+v.Dive
		l = append(l, b)
	}
	return l, api.OK
}

// checkReachOf returns what CheckReach returns.
func checkReachOf(s api.Sea, v api.Vehicle, b api.Box, t int64, boxes []api.Box) api.Errno {
	from := append([]api.Box{b}, boxes...)
	for i := range boxes {
		if !isPossible(s, v, from[i], t+int64(i)*v.Dive) {
			return api.ErrNone
		}
	}
	for i := range boxes {
		if !contains(boxes[i], hullOf(s, v, from[i], t+int64(i)*v.Dive)) {
			return api.ErrSum
		}
	}
	return api.OK
}

// Trials.

// trial is what a vehicle is, has and is to do.
type trial struct {
	s      api.Sea
	v      api.Vehicle
	b      api.Box
	t      int64
	energy api.Span
	plan   []api.Course
	p      api.Pickup
}

// someSpan returns a span from lo to hi; some of them are one number.
func someSpan(r *rand.Rand, lo, hi int64) api.Span {
	a, b := lo+r.Int63n(hi-lo+1), lo+r.Int63n(hi-lo+1)
	if r.Intn(4) == 0 {
		b = a
	}
	return span(min(a, b), max(a, b))
}

// someSea returns a sea whose currents change from cell to cell, from slot to
// slot, and from layer to layer.
func someSea(r *rand.Rand) api.Sea {
	s := still(3+r.Intn(5), 3+r.Intn(5), 100+r.Int63n(900), 100+r.Int63n(900), 1+r.Intn(5), 1+r.Intn(3))
	s.Most = r.Int63n(400)
	if r.Intn(6) == 0 {
		s.Most = 0
	}
	for i := range s.Shores {
		s.Shores[i] = r.Intn(30) == 0
	}
	for i := range s.Currents {
		s.Currents[i] = api.Current{U: someSpan(r, -s.Most, s.Most), V: someSpan(r, -s.Most, s.Most)}
	}
	return s
}

// somePlan returns a plan in the layers of a sea.
func somePlan(r *rand.Rand, s api.Sea, dives int) []api.Course {
	var plan []api.Course
	for range r.Intn(dives + 1) {
		plan = append(plan, api.Course{Heading: r.Intn(9), Layer: r.Intn(s.Layers)})
	}
	return plan
}

// someTrial returns a trial in which several dives are possible in most cases,
// and a pickup near to where the vehicle comes.
func someTrial(r *rand.Rand) trial {
	s := someSea(r)
	wide, high := int64(s.NX)*s.Cell, int64(s.NY)*s.Cell
	v := api.Vehicle{Speed: r.Int63n(400), Use: someSpan(r, 0, 60), Drift: someSpan(r, 0, 20), Reserve: r.Int63n(100)}
	v.Dive = 1 + r.Int63n(int64(s.Slots)*s.Slot/3+1)
	b := area(wide/2, wide/2+r.Int63n(40), high/2, high/2+r.Int63n(40))
	reach := reachOf(s, v, b)
	for reach.X.Lo < 0 || reach.Y.Lo < 0 {
		v.Dive = v.Dive/2 + 1
		if v.Dive < 3 {
			v.Speed, s.Most = 0, 0
			clear(s.Currents)
		}
		reach = reachOf(s, v, b)
	}
	if r.Intn(3) == 0 {
		by := r.Int63n(wide / 2)
		b.X = span(b.X.Lo-by, b.X.Hi-by)
	}
	x := trial{s: s, v: v, b: b, t: r.Int63n(int64(s.Slots)*s.Slot/2 + 1)}
	x.energy = someSpan(r, 0, 400)
	x.plan = somePlan(r, s, 4)
	x.p = api.Pickup{From: r.Int63n(x.t + 2*v.Dive), Area: b}
	x.p.To = x.p.From + r.Int63n(3*v.Dive)
	if isPossible(s, v, b, x.t) {
		x.p.Area = endOf(s, v, b, x.t, api.Course{Heading: r.Intn(9)})
	}
	by := r.Int63n(s.Cell/4 + 1)
	x.p.Area = area(x.p.Area.X.Lo-by, x.p.Area.X.Hi+by, x.p.Area.Y.Lo-by, x.p.Area.Y.Hi+by)
	return x
}

// trials calls f with n trials.
func trials(t *testing.T, n int, f func(r *rand.Rand, x trial)) {
	t.Helper()
	r := rand.New(rand.NewSource(3))
	for range n {
		f(r, someTrial(r))
		if t.Failed() {
			return
		}
	}
}

// clone returns a sea of its own.
func clone(s api.Sea) api.Sea {
	s.Shores, s.Currents = slices.Clone(s.Shores), slices.Clone(s.Currents)
	return s
}

// sail moves a vehicle for the seconds of one dive: at each second the water
// moves it with a current of a cell where it is, in its layer and slot. Places
// are in thousandths of mm.
func sail(r *rand.Rand, s api.Sea, v api.Vehicle, x, y, t int64, c api.Course) (int64, int64) {
	dx, dy := toward(c.Heading)
	place := func(a int64, n int) int { return min(int(a/(1000000*s.Cell)), n-1) }
	pick := func(a api.Span) int64 {
		// Often an end, as it drives the vehicle to the border of its box.
		return []int64{a.Lo, a.Hi, a.Lo + r.Int63n(a.Hi-a.Lo+1)}[r.Intn(3)]
	}
	always := r.Intn(3)
	for now := t; now < t+v.Dive; now++ {
		cell := place(y, s.NY)*s.NX + place(x, s.NX)
		w := s.Currents[(int(now/s.Slot)*s.Layers+c.Layer)*s.NX*s.NY+cell]
		u, n := pick(w.U), pick(w.V)
		switch always {
		case 0:
			u, n = w.U.Lo, w.V.Lo
		case 1:
			u, n = w.U.Hi, w.V.Hi
		}
		x, y = x+dx*v.Speed+1000*u, y+dy*v.Speed+1000*n
	}
	return x, y
}

// holds tells whether a box contains a place in thousandths of mm.
func holds(b api.Box, x, y int64) bool {
	const m = 1000000
	return b.X.Lo*m <= x && x <= b.X.Hi*m && b.Y.Lo*m <= y && y <= b.Y.Hi*m
}
