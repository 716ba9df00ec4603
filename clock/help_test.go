package clock_test

import (
	"math"
	"math/big"
	"math/rand"
	"slices"
	"testing"

	"isobath/api"
)

// instant is the greatest time.
const instant = 1 << 50

func span(lo, hi int64) api.Span { return api.Span{Lo: lo, Hi: hi} }

func exactly(x int64) api.Span { return span(x, x) }

// contains tells whether all numbers of b are in a.
func contains(a, b api.Span) bool { return a.Lo <= b.Lo && b.Hi <= a.Hi }

// example returns the clock of the chapter's examples.
func example() api.Clock {
	return api.Clock{Parent: api.Root, Rate: 1000, Exchanges: []api.Exchange{
		{Sent: 1000, Heard: 2010, Answered: 2020, Back: 1030, Forth: span(5, 15), Home: span(5, 15)},
		{Sent: 2000000, Heard: 2001020, Answered: 2001030, Back: 2000060, Forth: span(5, 40), Home: span(5, 40)},
	}}
}

// showing returns an exchange that came back at a reading, and by which the
// offset is from lo to hi for every rate.
func showing(back, lo, hi int64) api.Exchange {
	return api.Exchange{
		Sent: back - (hi - lo), Heard: back + lo, Answered: back + lo, Back: back,
		Forth: span(0, hi-lo), Home: span(0, hi-lo),
	}
}

// clockOf returns a clock of true time with a rate and some exchanges.
func clockOf(rate int64, l ...api.Exchange) api.Clock {
	return api.Clock{Parent: api.Root, Rate: rate, Exchanges: l}
}

// torn returns a clock that is valid, but not sound.
func torn() api.Clock { return clockOf(1000, showing(1000, 0, 10), showing(1000, 12, 20)) }

// below returns a clock with another parent.
func below(parent int, c api.Clock) api.Clock {
	c.Parent = parent
	return c
}

// kept returns a copy of a clock that shares no memory with it.
func kept(c api.Clock) api.Clock {
	c.Exchanges = slices.Clone(c.Exchanges)
	return c
}

// allKept returns a copy of clocks that shares no memory with them.
func allKept(l []api.Clock) []api.Clock {
	var copies []api.Clock
	for _, c := range l {
		copies = append(copies, kept(c))
	}
	return copies
}

func equal(a, b api.Clock) bool {
	return a.Parent == b.Parent && a.Rate == b.Rate && slices.Equal(a.Exchanges, b.Exchanges)
}

// wildNumbers returns numbers far beyond all limits.
func wildNumbers() []int64 {
	return []int64{math.MinInt64, math.MinInt64 + 1, -1 << 62, -1 << 51, 1 << 51, 1 << 62, math.MaxInt64 - 1, math.MaxInt64}
}

// badSpans returns spans that are not valid ones of numbers from lo to hi.
func badSpans(lo, hi int64) []api.Span {
	return []api.Span{
		span(lo+1, lo), span(hi, hi-1), span(lo-1, lo), span(lo-1, lo-1), span(hi, hi+1), span(hi+1, hi+1), span(lo-1, hi+1),
		span(math.MinInt64, math.MaxInt64), span(math.MaxInt64, math.MinInt64),
		span(math.MinInt64, math.MinInt64), span(math.MaxInt64, math.MaxInt64),
	}
}

// The chapter's definitions, as they are written: in exact fractions, and with
// a look at every pair and every exchange.

// growthOf returns the growth for a difference of readings.
func growthOf(rate, d int64) int64 {
	x := new(big.Rat).SetFrac(new(big.Int).Mul(big.NewInt(rate), big.NewInt(d)), big.NewInt(1000000000))
	// The quotient of big.Int's Div is rounded down, for a divisor above 0.
	down := new(big.Int).Div(new(big.Int).Neg(x.Num()), x.Denom())
	return -down.Int64()
}

// offsetOf returns the offset by an exchange, and whether there is one.
func offsetOf(x api.Exchange, rate int64) (api.Span, bool) {
	g := growthOf(rate, x.Back-x.Sent)
	lo := max(x.Heard-x.Sent-x.Forth.Hi-g, x.Answered-x.Back+x.Home.Lo)
	hi := min(x.Heard-x.Sent-x.Forth.Lo+g, x.Answered-x.Back+x.Home.Hi)
	return span(lo, hi), lo <= hi
}

// grownTo returns the offset by an exchange, grown to a reading.
func grownTo(c api.Clock, i int, t int64) api.Span {
	x := c.Exchanges[i]
	o, _ := offsetOf(x, c.Rate)
	g := growthOf(c.Rate, max(t-x.Back, x.Back-t))
	return span(o.Lo-g, o.Hi+g)
}

// offsetAt returns the offset of a clock at a reading, and whether it has one.
func offsetAt(c api.Clock, t int64) (api.Span, bool) {
	all := grownTo(c, 0, t)
	for i := range c.Exchanges {
		o := grownTo(c, i, t)
		all = span(max(all.Lo, o.Lo), min(all.Hi, o.Hi))
	}
	return all, all.Lo <= all.Hi
}

// contradictory tells whether two exchanges contradict each other.
func contradictory(c api.Clock, i, k int) bool {
	a := grownTo(c, i, c.Exchanges[k].Back)
	b, _ := offsetOf(c.Exchanges[k], c.Rate)
	return max(a.Lo, b.Lo) > min(a.Hi, b.Hi)
}

// firstContradiction returns the first pair that contradicts itself, and
// whether there is one.
func firstContradiction(c api.Clock) (int, int, bool) {
	for k := range c.Exchanges {
		for i := range k {
			if contradictory(c, i, k) {
				return i, k, true
			}
		}
	}
	return 0, 0, false
}

// greatestBack returns the greatest Back of a clock.
func greatestBack(c api.Clock) int64 {
	t := int64(0)
	for _, x := range c.Exchanges {
		t = max(t, x.Back)
	}
	return t
}

// trueTimeOf returns the true time of a reading of a clock.
func trueTimeOf(l []api.Clock, s api.Stamp) api.Span {
	a := exactly(s.At)
	for k := s.Clock; k != -1; k = l[k].Parent {
		o, _ := offsetAt(l[k], a.Lo)
		p, _ := offsetAt(l[k], a.Hi)
		a = span(a.Lo+o.Lo, a.Hi+p.Hi)
	}
	return a
}

// Random clocks.

// amount returns a number from 0 to most, often at an end or small.
func amount(r *rand.Rand, most int64) int64 {
	switch r.Intn(6) {
	case 0:
		return 0
	case 1:
		return most
	case 2:
		return r.Int63n(min(most, 20) + 1)
	}
	return r.Int63n(most + 1)
}

// someRate returns a rate.
func someRate(r *rand.Rand) int64 {
	if r.Intn(3) == 0 {
		return amount(r, 2000)
	}
	return amount(r, api.MaxClockRate)
}

// around returns a span of numbers from 0 on that contains one.
func around(r *rand.Rand, x, wide int64) api.Span {
	return span(max(0, x-amount(r, wide)), x+amount(r, wide))
}

// someExchange returns an exchange by which the offset can be o, and which
// begins at a reading or later.
func someExchange(r *rand.Rand, sent, o int64) api.Exchange {
	there, wait, back := amount(r, 50), amount(r, 200), amount(r, 50)
	sent = max(sent, -o)
	heard := sent + o + there
	return api.Exchange{
		Sent: sent, Heard: heard, Answered: heard + wait, Back: sent + there + wait + back,
		Forth: around(r, there, 30), Home: around(r, back, 30),
	}
}

// someClock returns a valid clock of up to n exchanges, which may contradict
// each other; their readings are far apart, or near each other.
func someClock(r *rand.Rand, n int) api.Clock {
	c := clockOf(someRate(r))
	last := []int64{100, 1 << 20, 1 << 40, 1<<50 - 1<<32}[r.Intn(4)]
	o, apart := r.Int63n(2000001)-1000000, int64(1)
	if r.Intn(3) > 0 {
		apart += amount(r, 60)
	}
	for range 1 + r.Intn(n) {
		c.Exchanges = append(c.Exchanges, someExchange(r, amount(r, last), o+r.Int63n(apart)))
	}
	return c
}

// soundClock returns a clock of up to n exchanges that is sound.
func soundClock(r *rand.Rand, n int) api.Clock {
	for {
		c := someClock(r, n)
		if _, _, torn := firstContradiction(c); !torn {
			return c
		}
	}
}

// soundHouse returns a house of up to n clocks that is sound.
func soundHouse(r *rand.Rand, n int) []api.Clock {
	var l []api.Clock
	for k := range 1 + r.Intn(n) {
		l = append(l, below(r.Intn(k+1)-1, soundClock(r, 4)))
	}
	return l
}

// someReading returns a time: anywhere, or near an exchange of a clock.
func someReading(r *rand.Rand, c api.Clock) int64 {
	if r.Intn(3) == 0 {
		return amount(r, instant)
	}
	x := c.Exchanges[r.Intn(len(c.Exchanges))]
	return min(max(0, x.Back+amount(r, 1<<[]int{3, 10, 30}[r.Intn(3)])-r.Int63n(1000)), instant)
}

// same compares the span that a function returns, and its error, with those
// that are wanted.
func same(t *testing.T, name any, got api.Span, e api.Errno, want api.Span, wantErr api.Errno) {
	t.Helper()
	if got != want || e != wantErr {
		t.Fatalf("%v: %v, %v; want %v, %v", name, got, e, want, wantErr)
	}
}
