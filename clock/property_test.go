package clock_test

import (
	"math/big"
	"math/rand"
	"testing"

	"isobath/api"
	"isobath/clock"
)

// wave is the true offset of a clock: from a base it rises and falls, or falls
// and rises, with the greatest slope that its rate allows or a lesser one.
type wave struct {
	base, slope *big.Rat
	half        int64
}

// someWave returns a wave for a rate.
func someWave(r *rand.Rand, rate int64) wave {
	slope := big.NewRat(rate, 1000000000)
	slope.Mul(slope, big.NewRat(r.Int63n(5)-2, 2))
	base := big.NewRat(r.Int63n(20000001)-10000000, 1+r.Int63n(9))
	return wave{base, slope, []int64{5, 1000, 1000003, 1 << 31, 1 << 52}[r.Intn(5)]}
}

// whole returns a whole number as a fraction.
func whole(x int64) *big.Rat { return big.NewRat(x, 1) }

// floor rounds down: the quotient of big.Int's Div is, for a divisor above 0.
func floor(x *big.Rat) int64 { return new(big.Int).Div(x.Num(), x.Denom()).Int64() }

// ceiling rounds up.
func ceiling(x *big.Rat) int64 { return -floor(new(big.Rat).Neg(x)) }

// at returns the offset at a reading.
func (w wave) at(t *big.Rat) *big.Rat {
	period := whole(2 * w.half)
	periods := whole(floor(new(big.Rat).Quo(t, period)))
	x := new(big.Rat).Sub(t, periods.Mul(periods, period))
	if x.Cmp(whole(w.half)) > 0 {
		x.Sub(period, x)
	}
	return x.Add(x.Mul(x, w.slope), w.base)
}

// shows returns what the parent shows when the clock shows a reading.
func (w wave) shows(t *big.Rat) *big.Rat { return new(big.Rat).Add(t, w.at(t)) }

// delay returns bounds of a delay that contain it.
func delay(r *rand.Rand, x *big.Rat) api.Span {
	return span(max(0, floor(x)-amount(r, 20)), ceiling(x)+amount(r, 20))
}

// exchange returns an exchange that is made at a reading, and whose delays lie
// within their bounds.
func (w wave) exchange(r *rand.Rand, sent int64) api.Exchange {
	left := w.shows(whole(sent))
	heard := ceiling(left) + amount(r, 100)
	answered := heard + amount(r, 100000)
	back := sent
	for {
		late := new(big.Rat).Sub(whole(answered), w.shows(whole(back)))
		if late.Sign() <= 0 {
			break
		}
		back += ceiling(late)
	}
	back += amount(r, 100)
	return api.Exchange{
		Sent: sent, Heard: heard, Answered: answered, Back: back,
		Forth: delay(r, new(big.Rat).Sub(whole(heard), left)),
		Home:  delay(r, new(big.Rat).Sub(w.shows(whole(back)), whole(answered))),
	}
}

// clock returns a clock whose true offset is a wave, with up to n exchanges.
func (w wave) clock(r *rand.Rand, rate int64, n int) api.Clock {
	c := clockOf(rate)
	last := []int64{1000, 1000000, 1 << 38}[r.Intn(3)]
	for range 1 + r.Intn(n) {
		c.Exchanges = append(c.Exchanges, w.exchange(r, 1<<25+amount(r, last)))
	}
	return c
}

// inside tells whether a number is in a span.
func inside(a api.Span, x *big.Rat) bool { return x.Cmp(whole(a.Lo)) >= 0 && x.Cmp(whole(a.Hi)) <= 0 }

// P5.7 and G1: if the offset changes no faster than the rate, and the delays lie
// within their bounds, the clock is sound, and its offset is where At says.
func TestOffsetIsEnclosed(t *testing.T) {
	r := rand.New(rand.NewSource(9))
	for range 1500 {
		rate := someRate(r)
		w := someWave(r, rate)
		c := w.clock(r, rate, 8)
		if _, _, e := clock.Contradiction(c); e != api.ErrNone {
			t.Fatal(c, e)
		}
		for range 5 {
			at := someReading(r, c)
			if o, e := clock.At(c, at); e != api.OK || !inside(o, w.at(whole(at))) {
				t.Fatal(c, at, o, e, w.at(whole(at)))
			}
		}
		for _, x := range c.Exchanges {
			if o, e := clock.Offset(x, rate); e != api.OK || !inside(o, w.at(whole(x.Back))) {
				t.Fatal(x, rate, o, e)
			}
		}
	}
}

// P5.12 and G4: along a tree of such clocks the true time is where Time says.
func TestTrueTimeIsEnclosed(t *testing.T) {
	r := rand.New(rand.NewSource(10))
	for range 400 {
		var l []api.Clock
		var waves []wave
		for k := range 1 + r.Intn(7) {
			rate := someRate(r)
			waves = append(waves, someWave(r, rate))
			l = append(l, below(max(-1, k-1-r.Intn(3)), waves[k].clock(r, rate, 4)))
		}
		for range 5 {
			k := r.Intn(len(l))
			s := api.Stamp{Clock: k, At: someReading(r, l[k])}
			x := whole(s.At)
			for ; k != api.Root; k = l[k].Parent {
				x = waves[k].shows(x)
			}
			if a, e := clock.Time(l, s); e != api.OK || !inside(a, x) {
				t.Fatal(l, s, a, e, x)
			}
		}
	}
}

// P5.8: with a further exchange the offset lies in the former one.
func TestMoreExchanges(t *testing.T) {
	r := rand.New(rand.NewSource(11))
	for range 1500 {
		c := soundClock(r, 8)
		n := r.Intn(len(c.Exchanges))
		fewer := kept(c)
		fewer.Exchanges = append(fewer.Exchanges[:n], fewer.Exchanges[n+1:]...)
		if len(fewer.Exchanges) == 0 {
			continue
		}
		for range 4 {
			at := someReading(r, c)
			a, e := clock.At(fewer, at)
			b, f := clock.At(c, at)
			if e != api.OK || f != api.OK || !contains(a, b) {
				t.Fatal(c, n, at, a, e, b, f)
			}
		}
	}
}

// wider returns a span of numbers from 0 on that contains one.
func wider(r *rand.Rand, a api.Span) api.Span {
	return span(max(0, a.Lo-amount(r, 30)), a.Hi+amount(r, 30))
}

// P5.8 and G1: with a greater rate, or wider bounds of delays, a sound clock
// stays sound, and its offset contains the former one.
func TestWiderBounds(t *testing.T) {
	r := rand.New(rand.NewSource(12))
	for range 1500 {
		c := soundClock(r, 8)
		loose := kept(c)
		if r.Intn(2) == 0 {
			loose.Rate += amount(r, api.MaxClockRate-c.Rate)
		}
		for i := range loose.Exchanges {
			if x := &loose.Exchanges[i]; r.Intn(2) == 0 {
				x.Forth, x.Home = wider(r, x.Forth), wider(r, x.Home)
			}
		}
		for range 4 {
			at := someReading(r, c)
			a, e := clock.At(loose, at)
			b, f := clock.At(c, at)
			if e != api.OK || f != api.OK || !contains(a, b) {
				t.Fatal(c, loose, at, a, e, b, f)
			}
		}
	}
}

// P5.10: between two readings the ends of the offset differ by at most the
// growth and 2, and the true time of the later one begins and ends no earlier.
func TestSlow(t *testing.T) {
	r := rand.New(rand.NewSource(13))
	for range 1500 {
		l := soundHouse(r, 6)
		k := r.Intn(len(l))
		for range 4 {
			s := someReading(r, l[k])
			later := min(s+amount(r, 1<<[]int{3, 12, 45}[r.Intn(3)]), instant)
			a, e := clock.At(l[k], s)
			b, f := clock.At(l[k], later)
			most := growthOf(l[k].Rate, later-s) + 2
			if e != api.OK || f != api.OK || !contains(span(a.Lo-most, a.Lo+most), exactly(b.Lo)) || !contains(span(a.Hi-most, a.Hi+most), exactly(b.Hi)) {
				t.Fatal(l[k], s, later, a, b)
			}
			times, e := clock.Times(l, []api.Stamp{{Clock: k, At: s}, {Clock: k, At: later}})
			if e != api.OK || times[1].Lo < times[0].Lo || times[1].Hi < times[0].Hi {
				t.Fatal(l, k, s, later, times, e)
			}
		}
	}
}

// G4: events whose order is certain by their true times are told in this order.
func TestOrderAlongTrees(t *testing.T) {
	r := rand.New(rand.NewSource(14))
	many := map[api.Answer]int{}
	for range 600 {
		rate := someRate(r)
		waves := []wave{someWave(r, rate), someWave(r, rate)}
		l := []api.Clock{waves[0].clock(r, rate, 5), waves[1].clock(r, rate, 5)}
		x := someReading(r, l[0])
		y := max(0, x+floor(waves[0].at(whole(x)))-floor(waves[1].at(whole(x)))+r.Int63n(200)-100)
		times, e := clock.Times(l, []api.Stamp{{Clock: 0, At: x}, {Clock: 1, At: min(y, instant)}})
		if e != api.OK {
			t.Fatal(l, x, y, e)
		}
		answer, _ := clock.Before(times[0], times[1])
		many[answer]++
		first := waves[0].shows(whole(x)).Cmp(waves[1].shows(whole(min(y, instant)))) < 0
		if answer == api.Yes && !first || answer == api.No && first {
			t.Fatal(l, x, y, times, answer)
		}
	}
	if many[api.Yes] < 20 || many[api.No] < 20 || many[api.Open] < 20 {
		t.Error(many)
	}
}
