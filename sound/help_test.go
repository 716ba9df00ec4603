package sound_test

import (
	"math"
	"math/big"
	"math/rand"
	"slices"
	"testing"

	"isobath/api"
)

const (
	most    = api.MaxValue
	instant = api.MaxInstant
	place   = api.MaxPlace
)

func span(lo, hi int64) api.Span { return api.Span{Lo: lo, Hi: hi} }

func exactly(x int64) api.Span { return api.Span{Lo: x, Hi: x} }

// box returns a box by the ends of X and Y.
func box(x0, x1, y0, y1 int64) api.Box { return api.Box{X: span(x0, x1), Y: span(y0, y1)} }

func point(x, y int64) api.Box { return box(x, x, y, y) }

// contains tells whether all numbers of b are in a.
func contains(a, b api.Span) bool { return a.Lo <= b.Lo && b.Hi <= a.Hi }

// holds tells whether all points of b are in a.
func holds(a, b api.Box) bool { return contains(a.X, b.X) && contains(a.Y, b.Y) }

// example returns the net of the chapter's examples.
func example() api.Net {
	return api.Net{Stations: []api.Box{point(0, 0), point(3000, 0), point(0, 4000)}, Speed: exactly(1500)}
}

// exampleArrivals returns the arrivals of the chapter's examples.
func exampleArrivals() []api.Span { return []api.Span{exactly(100), exactly(2100), exactly(2767)} }

// exampleGauges returns the gauges of the chapter's examples.
func exampleGauges() []api.Gauge {
	return []api.Gauge{
		{Level: []api.Span{span(0, 1), span(20, 30), span(25, 40)}},
		{Level: []api.Span{span(0, 5), span(5, 25), span(21, 22)}},
	}
}

// exampleRule returns the rule of the chapter's examples.
func exampleRule() api.Rule { return api.Rule{Height: 20, Run: 2, Gauges: 1} }

// exampleCoasts returns the coasts of the chapter's examples.
func exampleCoasts() []api.Coast {
	return []api.Coast{{At: point(10000, 0), Need: 40}, {At: point(10000, 0), Need: 45}, {At: point(10000, 0), Need: 97}}
}

// quick returns the net of the examples with the speed of those of Warn.
func quick() api.Net {
	n := example()
	n.Speed = span(100, 200)
	return n
}

// always returns arrivals that exclude no box.
func always(stations int) []api.Span {
	return slices.Repeat([]api.Span{span(-instant, instant)}, stations)
}

// wildNumbers returns numbers far beyond all limits.
func wildNumbers() []int64 {
	return []int64{math.MinInt64, math.MinInt64 + 1, -1 << 62, 1 << 62, math.MaxInt64 - 1, math.MaxInt64}
}

// badSpans returns spans that are not valid.
func badSpans() []api.Span {
	return []api.Span{
		span(1, 0), span(most, most-1), span(-most-1, 0), span(0, most+1), span(-most-1, -most-1), span(most+1, most+1),
		span(math.MinInt64, math.MaxInt64), span(math.MaxInt64, math.MinInt64), span(math.MinInt64, math.MinInt64),
	}
}

// badBoxes returns boxes that are not valid.
func badBoxes() []api.Box {
	var l []api.Box
	for _, a := range append(badSpans(), span(-place-1, 0), span(0, place+1), exactly(place+1), exactly(-place-1)) {
		l = append(l, api.Box{X: a, Y: span(0, 1)}, api.Box{X: span(0, 1), Y: a})
	}
	return l
}

// badTimes returns spans that are not time spans, or have ends that are too
// great.
func badTimes() []api.Span {
	l := []api.Span{
		span(1, 0), span(-1, -2), span(instant, instant-1), span(instant, -instant), span(0, instant+1),
		span(-instant-1, 0), exactly(instant + 1), exactly(-instant - 1),
	}
	for _, w := range wildNumbers() {
		l = append(l, exactly(w), span(min(w, 0), max(w, 0)), span(max(w, 0), min(w, 0)))
	}
	return l
}

// The chapter's definitions, as they are written.

// answerOf returns Yes if all are so, No if none is, otherwise Open.
func answerOf(all, none bool) api.Answer {
	switch {
	case all:
		return api.Yes
	case none:
		return api.No
	}
	return api.Open
}

// callsOf returns the calls of a choice: its longest series of true elements are
// what is between the false ones.
func callsOf(choice []bool, n int) int {
	calls, from := 0, 0
	for i := 0; i <= len(choice); i++ {
		if i < len(choice) && choice[i] {
			continue
		}
		if i-from >= n {
			calls++
		}
		from = i + 1
	}
	return calls
}

// fits tells whether a choice fits answers.
func fits(choice []bool, l []api.Answer) bool {
	if len(choice) != len(l) {
		return false
	}
	for i, on := range choice {
		if l[i] == api.Yes && !on || l[i] == api.No && on {
			return false
		}
	}
	return true
}

// fitting calls a function with all choices that fit.
func fitting(l []api.Answer, choice []bool, try func(choice []bool)) {
	if len(choice) == len(l) {
		try(choice)
		return
	}
	x := l[len(choice)]
	if x != api.Yes {
		fitting(l, append(choice, false), try)
	}
	if x != api.No {
		fitting(l, append(choice, true), try)
	}
}

// countOf returns the count of a list by all choices that fit.
func countOf(l []api.Answer, n int) api.Span {
	c := span(math.MaxInt64, math.MinInt64)
	fitting(l, nil, func(choice []bool) {
		calls := int64(callsOf(choice, n))
		c = span(min(c.Lo, calls), max(c.Hi, calls))
	})
	return c
}

// countOfMany returns the count of a list, of which each choice is series that
// end before an element that is false, or at the end.
func countOfMany(l []api.Answer, n int) api.Span {
	// best[i] is the count of the first i elements and a false one behind them.
	best := []api.Span{}
	for i := 0; i <= len(l); i++ {
		c := span(math.MaxInt64, math.MinInt64)
		if i < len(l) && l[i] == api.Yes {
			best = append(best, c)
			continue
		}
		for from := i; from >= 0; from-- {
			calls := int64(0)
			if i-from >= n {
				calls = 1
			}
			before := span(0, 0)
			if from > 0 {
				before = best[from-1]
			}
			if before.Lo <= before.Hi {
				c = span(min(c.Lo, before.Lo+calls), max(c.Hi, before.Hi+calls))
			}
			if from > 0 && l[from-1] == api.No {
				break
			}
		}
		best = append(best, c)
	}
	return best[len(l)]
}

// floor rounds down: the quotient of big.Int's Div is, for a divisor above 0.
func floor(x *big.Rat) int64 { return new(big.Int).Div(x.Num(), x.Denom()).Int64() }

// ceiling rounds up.
func ceiling(x *big.Rat) int64 { return -floor(new(big.Rat).Neg(x)) }

// farthest returns the distance of two boxes along one side, from the least to
// the greatest.
func farthest(a, b api.Span) (*big.Int, *big.Int) {
	least, greatest := int64(0), max(b.Hi-a.Lo, a.Hi-b.Lo)
	if a.Hi < b.Lo {
		least = b.Lo - a.Hi
	} else if b.Hi < a.Lo {
		least = a.Lo - b.Hi
	}
	return big.NewInt(least), big.NewInt(greatest)
}

// rootOf returns the root of x*x + y*y, rounded down or up.
func rootOf(x, y *big.Int, up bool) int64 {
	square := new(big.Int).Add(new(big.Int).Mul(x, x), new(big.Int).Mul(y, y))
	r := new(big.Int).Sqrt(square)
	if up && new(big.Int).Mul(r, r).Cmp(square) < 0 {
		return r.Int64() + 1
	}
	return r.Int64()
}

// travelOf returns the travel time between two boxes.
func travelOf(speed api.Span, a, b api.Box) api.Span {
	x0, x1 := farthest(a.X, b.X)
	y0, y1 := farthest(a.Y, b.Y)
	return span(floor(big.NewRat(1000*rootOf(x0, y0, false), speed.Hi)), ceiling(big.NewRat(1000*rootOf(x1, y1, true), speed.Lo)))
}

// originsOf returns the origins of a box by all stations.
func originsOf(n api.Net, a []api.Span, b api.Box) []api.Span {
	var l []api.Span
	for i, s := range n.Stations {
		t := travelOf(n.Speed, b, s)
		l = append(l, span(a[i].Lo-t.Hi, a[i].Hi-t.Lo))
	}
	return l
}

// commonOf returns the common part of spans, and whether there is one.
func commonOf(l ...api.Span) (api.Span, bool) {
	c := l[0]
	for _, a := range l {
		c = span(max(c.Lo, a.Lo), min(c.Hi, a.Hi))
	}
	return c, c.Lo <= c.Hi
}

// originOf returns the origin of a box, and the error of Origin.
func originOf(n api.Net, a []api.Span, b api.Box) (api.Span, api.Errno) {
	o, exists := commonOf(originsOf(n, a, b)...)
	if !exists {
		return api.Span{}, api.ErrNone
	}
	return o, api.OK
}

// pairOf returns the pair of stations that exclude a box, and the error of
// Excluded.
func pairOf(n api.Net, a []api.Span, b api.Box) (int, int, api.Errno) {
	l := originsOf(n, a, b)
	for k := range l {
		for i := 0; i < k; i++ {
			if _, exists := commonOf(l[i], l[k]); !exists {
				return i, k, api.OK
			}
		}
	}
	return 0, 0, api.ErrNone
}

// middleOf returns the middle of a side, rounded down.
func middleOf(a api.Span) int64 { return floor(big.NewRat(a.Lo+a.Hi, 2)) }

// partsOf returns the parts of a box.
func partsOf(b api.Box) []api.Box {
	x, y := middleOf(b.X), middleOf(b.Y)
	divideX, divideY := b.X.Lo < b.X.Hi, b.Y.Lo < b.Y.Hi
	switch {
	case divideX && divideY:
		return []api.Box{
			box(b.X.Lo, x, b.Y.Lo, y), box(x, b.X.Hi, b.Y.Lo, y), box(b.X.Lo, x, y, b.Y.Hi), box(x, b.X.Hi, y, b.Y.Hi),
		}
	case divideX:
		return []api.Box{{X: span(b.X.Lo, x), Y: b.Y}, {X: span(x, b.X.Hi), Y: b.Y}}
	case divideY:
		return []api.Box{{X: b.X, Y: span(b.Y.Lo, y)}, {X: b.X, Y: span(y, b.Y.Hi)}}
	}
	return []api.Box{b}
}

// regionOf returns the region of an area.
func regionOf(n api.Net, a []api.Span, area api.Box, depth int) []api.Box {
	if _, e := originOf(n, a, area); e != api.OK {
		return nil
	}
	if depth == 0 {
		return []api.Box{area}
	}
	var l []api.Box
	for _, part := range partsOf(area) {
		l = append(l, regionOf(n, a, part, depth-1)...)
	}
	return l
}

// highOf returns whether a sample is high, by the least and the greatest amount
// of its numbers.
func highOf(a api.Span, height int64) api.Answer {
	least, greatest := min(max(a.Lo, -a.Lo), max(a.Hi, -a.Hi)), max(a.Lo, -a.Lo, a.Hi, -a.Hi)
	if a.Lo <= 0 && 0 <= a.Hi {
		least = 0
	}
	return answerOf(least >= height, greatest < height)
}

// risenOf returns whether a gauge has risen by the sample k.
func risenOf(g api.Gauge, r api.Rule, k int) api.Answer {
	some := api.No
	for j := r.Run - 1; j <= k; j++ {
		all := api.Yes
		for i := j - r.Run + 1; i <= j; i++ {
			all = min(all, highOf(g.Level[i], r.Height))
		}
		some = max(some, all)
	}
	return some
}

// raisedOf returns whether the alarm is raised by the sample k.
func raisedOf(l []api.Gauge, r api.Rule, k int) api.Answer {
	many := map[api.Answer]int{}
	for _, g := range l {
		many[risenOf(g, r, k)]++
	}
	return answerOf(many[api.Yes] >= r.Gauges, many[api.Yes]+many[api.Open] < r.Gauges)
}

// firstOf returns what First returns.
func firstOf(l []api.Gauge, r api.Rule) (int, int, api.Errno) {
	certain, possible := -1, -1
	for k := range l[0].Level {
		x := raisedOf(l, r, k)
		if x == api.Yes && certain < 0 {
			certain = k
		}
		if x != api.No && possible < 0 {
			possible = k
		}
	}
	if certain < 0 {
		return 0, 0, api.ErrNone
	}
	return certain, possible, api.OK
}

// warningOf returns the warning of a coast.
func warningOf(n api.Net, source api.Box, origin api.Span, at int64, c api.Coast) api.Warning {
	t := travelOf(n.Speed, source, c.At)
	w := api.Warning{Arrival: span(origin.Lo+t.Lo, origin.Hi+t.Hi)}
	due := at + 1000*c.Need
	w.InTime = answerOf(due <= w.Arrival.Lo, due > w.Arrival.Hi)
	return w
}

// Random arguments.

// someSpan returns a span around a number.
func someSpan(r *rand.Rand, x, wide int64) api.Span {
	return span(x-r.Int63n(wide+1), x+r.Int63n(wide+1))
}

// someBox returns a valid box whose ends are up to far from 0, and which is up to
// wide, often a point or a line.
func someBox(r *rand.Rand, far, wide int64) api.Box {
	side := func() api.Span {
		lo := r.Int63n(2*far+1) - far
		if r.Intn(3) == 0 {
			return exactly(lo)
		}
		return span(lo, min(far, lo+r.Int63n(wide+1)))
	}
	return api.Box{X: side(), Y: side()}
}

// someSpeed returns a valid speed.
func someSpeed(r *rand.Rand) api.Span {
	lo := 1 + r.Int63n([]int64{3, 2000, api.MaxSound}[r.Intn(3)])
	if r.Intn(2) == 0 {
		return exactly(lo)
	}
	return span(lo, lo+r.Int63n(api.MaxSound-lo+1))
}

// someNet returns a valid net of up to n stations.
func someNet(r *rand.Rand, n int, far, wide int64) api.Net {
	net := api.Net{Speed: someSpeed(r)}
	for range 2 + r.Intn(n-1) {
		net.Stations = append(net.Stations, someBox(r, far, wide))
	}
	return net
}

// someArrivals returns arrivals from a box that is perhaps not excluded.
func someArrivals(r *rand.Rand, n api.Net, b api.Box) []api.Span {
	origin := r.Int63n(20001) - 10000
	wide := []int64{0, 30, 1000, 100000}[r.Intn(4)]
	var l []api.Span
	for _, s := range n.Stations {
		t := travelOf(n.Speed, b, s)
		l = append(l, someSpan(r, origin+t.Lo+r.Int63n(t.Hi-t.Lo+1), wide))
	}
	return l
}

// someGauges returns gauges of up to n samples, and a rule.
func someGauges(r *rand.Rand, n int) ([]api.Gauge, api.Rule) {
	samples := r.Intn(n + 1)
	l := make([]api.Gauge, 1+r.Intn(4))
	for i := range l {
		for range samples {
			x := r.Int63n(21) - 10
			l[i].Level = append(l[i].Level, someSpan(r, x, []int64{0, 2, 8}[r.Intn(3)]))
		}
	}
	return l, api.Rule{Height: 1 + r.Int63n(9), Run: 1 + r.Intn(4), Gauges: 1 + r.Intn(3)}
}

// narrower returns a span that lies in another one.
func narrower(r *rand.Rand, a api.Span) api.Span {
	lo := a.Lo + r.Int63n(a.Hi-a.Lo+1)
	hi := lo + r.Int63n(a.Hi-lo+1)
	switch r.Intn(4) {
	case 0:
		return a
	case 1:
		return span(a.Lo, hi)
	case 2:
		return span(lo, a.Hi)
	}
	return span(lo, hi)
}

// smaller returns a box that lies in another one.
func smaller(r *rand.Rand, b api.Box) api.Box {
	return api.Box{X: narrower(r, b.X), Y: narrower(r, b.Y)}
}

// each returns what a function makes of the elements of a list.
func each[T any](l []T, f func(x T) T) []T {
	var all []T
	for _, x := range l {
		all = append(all, f(x))
	}
	return all
}

// What is true within bounds: places and times in quarters, so that a number of
// them is exact as a big.Float.

const quarters = 4

// spot is a true place, in quarters of a metre.
type spot struct{ x, y int64 }

// someTruth returns a true number of a span, in quarters, often one of its ends.
func someTruth(r *rand.Rand, a api.Span) int64 {
	switch r.Intn(5) {
	case 0:
		return quarters * a.Lo
	case 1:
		return quarters * a.Hi
	}
	return quarters*a.Lo + r.Int63n(quarters*(a.Hi-a.Lo)+1)
}

// someSpot returns a true place in a box.
func someSpot(r *rand.Rand, b api.Box) spot { return spot{someTruth(r, b.X), someTruth(r, b.Y)} }

// isIn tells whether a true number is in a span.
func isIn(x int64, a api.Span) bool { return quarters*a.Lo <= x && x <= quarters*a.Hi }

// float returns a number that is exact.
func float(x int64) *big.Float { return new(big.Float).SetPrec(300).SetInt64(x) }

// arrives returns when a wave that begins at a time, in quarters of a
// millisecond, arrives at b from a, with a speed in quarters of a m/s.
func arrives(origin int64, a, b spot, speed int64) *big.Float {
	x, y := float(a.x-b.x), float(a.y-b.y)
	d := new(big.Float).SetPrec(300).Add(x.Mul(x, x), y.Mul(y, y))
	d.Sqrt(d)
	// Both the distance and the speed are in quarters.
	t := d.Quo(d.Mul(d, float(1000)), float(speed))
	return t.Add(t, new(big.Float).SetPrec(300).Quo(float(origin), float(quarters)))
}

// around returns the least span of whole numbers around a number.
func around(x *big.Float) api.Span {
	whole, _ := x.Int(nil)
	lo := whole.Int64()
	if x.Cmp(float(lo)) < 0 {
		lo--
	}
	if x.Cmp(float(lo)) == 0 {
		return exactly(lo)
	}
	return span(lo, lo+1)
}

// equal compares a list that a function returns, and its error, with those that
// are wanted.
func equal[T comparable](t *testing.T, name any, got []T, e api.Errno, want []T, wantErr api.Errno) {
	t.Helper()
	if !slices.Equal(got, want) || e != wantErr {
		t.Fatalf("%v: %v, %v; want %v, %v", name, got, e, want, wantErr)
	}
}

// same compares what a function returns with what is wanted.
func same[T comparable](t *testing.T, name any, got T, e api.Errno, want T, wantErr api.Errno) {
	t.Helper()
	if got != want || e != wantErr {
		t.Fatalf("%v: %v, %v; want %v, %v", name, got, e, want, wantErr)
	}
}
