package clock_test

import (
	"math"
	"math/rand"
	"slices"
	"testing"

	"isobath/api"
	"isobath/clock"
)

// R5: no argument is changed, also where it is a part of a longer list.
func TestArgumentsAreKept(t *testing.T) {
	r := rand.New(rand.NewSource(15))
	for range 200 {
		c := someClock(r, 8)
		l := append(soundHouse(r, 6), c)[:1]
		stamps := []api.Stamp{{Clock: 0, At: 9}, {Clock: 0, At: 5}, {Clock: 0, At: 7}}
		spans := []api.Span{span(5, 9), span(1, 7), span(3, 6), span(8, 8)}
		sameC, sameL, sameStamps, sameSpans := kept(c), allKept(l[:cap(l)]), slices.Clone(stamps), slices.Clone(spans)
		clock.CheckClock(c)
		clock.At(c, 1000)
		clock.Contradiction(c)
		clock.CheckContradiction(c, 0, len(c.Exchanges)-1)
		clock.Due(c, 100)
		clock.CheckHouse(l)
		clock.Time(l, stamps[0])
		clock.Times(l, stamps[:2])
		clock.Ranks(spans[:3])
		clock.Common(spans[:3])
		if !equal(c, sameC) || !slices.EqualFunc(l[:cap(l)], sameL, equal) || !slices.Equal(stamps, sameStamps) || !slices.Equal(spans, sameSpans) {
			t.Fatal(c, l, stamps, spans)
		}
	}
}

// R5 and R10: results share no memory with arguments, or with other results;
// equal calls return equal results, whatever was called between them.
func TestResultsAreNew(t *testing.T) {
	l := []api.Clock{example(), below(0, example())}
	stamps := []api.Stamp{{Clock: 1, At: 1030}, {Clock: 0, At: 1030}}
	wantTimes := []api.Span{trueTimeOf(l, stamps[0]), span(2025, 2035)}
	spans := []api.Span{span(1, 3), span(2, 4), span(5, 6)}
	wantRanks := [][2]int{{0, 1}, {0, 1}, {2, 2}}
	for range 3 {
		times, e := clock.Times(l, stamps)
		again, _ := clock.Times(l, stamps)
		if e != api.OK || !slices.Equal(times, wantTimes) || !slices.Equal(again, wantTimes) {
			t.Fatal(times, again, e)
		}
		ranks, e := clock.Ranks(spans)
		againRanks, _ := clock.Ranks(spans)
		if e != api.OK || !slices.Equal(ranks, wantRanks) || !slices.Equal(againRanks, wantRanks) {
			t.Fatal(ranks, againRanks, e)
		}
		times[0], times[1] = span(-1, -2), span(-3, -4)
		ranks[0], ranks[1] = [2]int{-1, -2}, [2]int{-3, -4}
		if !slices.Equal(again, wantTimes) || !slices.Equal(againRanks, wantRanks) {
			t.Fatal(again, againRanks)
		}
	}
}

// R5 and R10: nothing is kept of a list that is changed after a call.
func TestNothingIsKept(t *testing.T) {
	r := rand.New(rand.NewSource(16))
	c := clockOf(1000, make([]api.Exchange, 3)...)
	for range 500 {
		next := soundClock(r, 3)
		c.Rate = next.Rate
		for i := range c.Exchanges {
			c.Exchanges[i] = next.Exchanges[i%len(next.Exchanges)]
		}
		at := someReading(r, c)
		want, _ := offsetAt(c, at)
		o, e := clock.At(c, at)
		same(t, c, o, e, want, api.OK)
		a, e := clock.Time([]api.Clock{c}, api.Stamp{Clock: 0, At: at})
		same(t, c, a, e, span(at+want.Lo, at+want.Hi), api.OK)
	}
}

// wild returns a number that may be anything.
func wild(r *rand.Rand) int64 {
	switch r.Intn(5) {
	case 0:
		return r.Int63n(9) - 4
	case 1:
		return int64(r.Uint64())
	case 2:
		l := append(wildNumbers(), 1<<50, 1<<50+1, 1<<30, 1<<30+1, 1000000, 1000001)
		return l[r.Intn(len(l))]
	}
	return amount(r, instant)
}

// wildClock returns a clock that may have any numbers.
func wildClock(r *rand.Rand) api.Clock {
	c := someClock(r, 4)
	for range r.Intn(3) {
		x := &c.Exchanges[r.Intn(len(c.Exchanges))]
		*[]*int64{
			&x.Sent, &x.Heard, &x.Answered, &x.Back, &x.Forth.Lo, &x.Forth.Hi, &x.Home.Lo, &x.Home.Hi, &c.Rate,
		}[r.Intn(9)] = wild(r)
	}
	c.Parent = []int{-1, 0, 1, int(wild(r)), math.MinInt}[r.Intn(5)]
	return c
}

// P1 and R2: every function ends for any numbers, and with an error all other
// results are zero values.
func TestAnyNumbers(t *testing.T) {
	r := rand.New(rand.NewSource(17))
	for range 20000 {
		c, l, s := wildClock(r), []api.Clock{below(-1, wildClock(r)), wildClock(r)}, api.Stamp{Clock: int(wild(r)), At: wild(r)}
		x, a, b := c.Exchanges[0], span(wild(r), wild(r)), span(wild(r), wild(r))
		args := arguments{
			x: x, c: c, contrary: c, l: l, rate: wild(r), t: wild(r), limit: wild(r), i: int(wild(r)), k: int(wild(r)),
			s: s, stamps: []api.Stamp{s, {Clock: 0, At: wild(r)}}, a: a, b: b, spans: []api.Span{a, b}, common: []api.Span{a, b},
		}
		for _, f := range append(clockCalls(), houseCalls()...) {
			if zero, e := f.do(args); e != api.OK && !zero || e < api.OK || e > api.ErrSum {
				t.Fatal(f.name, args, e)
			}
		}
		if valid := clock.CheckExchange(x) == api.OK; valid != validExchange(x) {
			t.Fatal(x, valid)
		}
	}
}

// validExchange tells whether an exchange is valid by the definition.
func validExchange(x api.Exchange) bool {
	for _, y := range []int64{x.Sent, x.Heard, x.Answered, x.Back} {
		if y < 0 || y > instant {
			return false
		}
	}
	for _, a := range []api.Span{x.Forth, x.Home} {
		if a.Lo < 0 || a.Lo > a.Hi || a.Hi > 1<<30 {
			return false
		}
	}
	return x.Sent <= x.Back && x.Heard <= x.Answered
}
