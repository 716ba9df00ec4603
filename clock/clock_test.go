package clock_test

import (
	"math"
	"math/rand"
	"slices"
	"testing"

	"isobath/api"
	"isobath/clock"
)

// P5.2: the chapter's examples.
func TestExamplesOfAt(t *testing.T) {
	if e := clock.CheckClock(example()); e != api.OK {
		t.Error(e)
	}
	for _, x := range []struct {
		t    int64
		want api.Span
	}{{1030, span(995, 1005)}, {2000060, span(993, 1007)}, {1001030, span(994, 1006)}} {
		o, e := clock.At(example(), x.t)
		same(t, x.t, o, e, x.want, api.OK)
	}
}

// P5.2: how many exchanges there are, and that a wrong number of them comes
// first.
func TestCheckClockMany(t *testing.T) {
	good, bad := showing(1000, 0, 10), exchangeAt(8, 3, 3, 7)
	for _, x := range []struct {
		name string
		c    api.Clock
		want api.Errno
	}{
		{"nil", clockOf(0), api.ErrMany},
		{"none", clockOf(0, []api.Exchange{}...), api.ErrMany},
		{"none, not valid", below(-2, clockOf(-1)), api.ErrMany},
		{"one", clockOf(0, good), api.OK},
		{"63", clockOf(0, slices.Repeat([]api.Exchange{good}, 63)...), api.OK},
		{"64", clockOf(0, slices.Repeat([]api.Exchange{good}, 64)...), api.OK},
		{"65", clockOf(0, slices.Repeat([]api.Exchange{good}, 65)...), api.ErrMany},
		{"65, not valid", below(-2, clockOf(-1, slices.Repeat([]api.Exchange{bad}, 65)...)), api.ErrMany},
		{"the first not valid", clockOf(0, append([]api.Exchange{bad}, slices.Repeat([]api.Exchange{good}, 63)...)...), api.ErrArg},
		{"the last not valid", clockOf(0, append(slices.Repeat([]api.Exchange{good}, 63), bad)...), api.ErrArg},
		{"one not valid", clockOf(0, bad), api.ErrArg},
		{"not sound", torn(), api.OK},
		{"the zero clock", api.Clock{}, api.ErrMany},
	} {
		if e := clock.CheckClock(x.c); e != x.want {
			t.Error(x.name, e)
		}
	}
}

// P5.2: the parent and the rate may be at their limits, and not beyond them.
func TestCheckClockNumbers(t *testing.T) {
	for _, p := range []int{-1, 0, 1, 31, 32, 33, math.MaxInt} {
		if e := clock.CheckClock(below(p, example())); e != api.OK {
			t.Error(p, e)
		}
	}
	for _, p := range []int{-2, -3, math.MinInt} {
		if e := clock.CheckClock(below(p, example())); e != api.ErrArg {
			t.Error(p, e)
		}
	}
	for _, rate := range []int64{0, 1, api.MaxClockRate - 1, api.MaxClockRate} {
		if e := clock.CheckClock(clockOf(rate, showing(1000, 0, 10))); e != api.OK {
			t.Error(rate, e)
		}
	}
	for _, rate := range append(wildNumbers(), -1, api.MaxClockRate+1) {
		if e := clock.CheckClock(clockOf(rate, showing(1000, 0, 10))); e != api.ErrArg {
			t.Error(rate, e)
		}
	}
}

// P5.2: each exchange has to be valid, with a common part for the clock's rate,
// and its offset has no end beyond MaxValue.
func TestCheckClockExchanges(t *testing.T) {
	const most = api.MaxValue
	early := api.Exchange{Sent: 100, Heard: 600, Answered: 600, Back: 200, Forth: span(20, 50), Home: span(81, 90)}
	far := func(lo, hi int64) api.Exchange { return showing(1<<40, lo, hi) }
	for i, x := range []struct {
		rate int64
		x    api.Exchange
		want api.Errno
	}{
		{0, early, api.ErrArg},
		{1, early, api.OK},
		{0, exchangeAt(7, 4, 3, 7), api.ErrArg},
		{0, far(most, most), api.OK},
		{0, far(-most, -most), api.OK},
		{0, far(0, most), api.OK},
		{0, far(-most, 0), api.OK},
		{0, far(most-1, most), api.OK},
		{1000000, far(most, most), api.OK},
		{1000000, far(-most, -most), api.OK},
		{0, far(most, most+1), api.ErrArg},
		{0, far(most+1, most+1), api.ErrArg},
		{0, far(0, most+1), api.ErrArg},
		{0, far(-most-1, -most), api.ErrArg},
		{0, far(-most-1, -most-1), api.ErrArg},
		{0, far(-most-1, 0), api.ErrArg},
		{0, exchangeAt(0, instant, instant, 0), api.ErrArg},
		{0, api.Exchange{Heard: instant, Answered: instant}, api.ErrArg},
		{0, api.Exchange{Sent: instant, Back: instant}, api.ErrArg},
	} {
		for at := range 3 {
			l := slices.Repeat([]api.Exchange{far(0, 10)}, 3)
			l[at] = x.x
			if e := clock.CheckClock(clockOf(x.rate, l...)); e != x.want {
				t.Error(i, at, e)
			}
		}
		o, e := clock.At(clockOf(x.rate, x.x), 1<<40)
		if e != x.want || x.want != api.OK && o != span(0, 0) {
			t.Error(i, o, e)
		}
	}
}

// P5.2: the reading may be at its limits, and not beyond them; offsets grow in
// both directions, and beyond MaxValue.
func TestAt(t *testing.T) {
	const billion = 1000000000
	one := clockOf(1000000, showing(1000000, -5, 10))
	slow := clockOf(1, showing(5*billion, 100, 100))
	two := clockOf(1000000, showing(1000000, 0, 10), showing(1005000, 4, 30))
	for _, x := range []struct {
		c    api.Clock
		t    int64
		want api.Span
		e    api.Errno
	}{
		{one, 1000000, span(-5, 10), api.OK},
		{one, 1000001, span(-6, 11), api.OK},
		{one, 999999, span(-6, 11), api.OK},
		{one, 1001000, span(-6, 11), api.OK},
		{one, 999000, span(-6, 11), api.OK},
		{one, 1001001, span(-7, 12), api.OK},
		{one, 998999, span(-7, 12), api.OK},
		{one, 0, span(-1005, 1010), api.OK},
		{one, instant, span(-1125899905848, 1125899905853), api.OK},
		{one, -1, api.Span{}, api.ErrRange},
		{one, instant + 1, api.Span{}, api.ErrRange},
		{slow, 4 * billion, span(99, 101), api.OK},
		{slow, 4*billion - 1, span(98, 102), api.OK},
		{slow, 6 * billion, span(99, 101), api.OK},
		{slow, 6*billion + 1, span(98, 102), api.OK},
		{slow, instant, span(100-1125895, 100+1125895), api.OK},
		{clockOf(0, showing(1000, 3, 4)), 0, span(3, 4), api.OK},
		{clockOf(0, showing(1000, 3, 4)), instant, span(3, 4), api.OK},
		{two, 1000000, span(0, 10), api.OK},
		{two, 1001000, span(0, 11), api.OK},
		{two, 1003000, span(2, 13), api.OK},
		{two, 1005000, span(4, 15), api.OK},
		{two, 1006000, span(3, 16), api.OK},
		{two, 999000, span(-1, 11), api.OK},
		{two, 998000, span(-2, 12), api.OK},
	} {
		o, e := clock.At(x.c, x.t)
		same(t, x.t, o, e, x.want, x.e)
	}
	for _, w := range wildNumbers() {
		o, e := clock.At(one, w)
		same(t, w, o, e, api.Span{}, api.ErrRange)
	}
}

// P5.2: a clock that is not sound has no offset at any reading, also where its
// spans have a common part.
func TestAtOfNoSound(t *testing.T) {
	for _, at := range []int64{0, 1, 999, 1000, 1001, 1 << 20, 1 << 40, instant} {
		o, e := clock.At(torn(), at)
		same(t, at, o, e, api.Span{}, api.ErrNone)
	}
	for _, at := range append(wildNumbers(), -1, instant+1) {
		o, e := clock.At(torn(), at)
		same(t, at, o, e, api.Span{}, api.ErrRange)
	}
}

// P5.2: At agrees with the definition.
func TestAtIsDefined(t *testing.T) {
	r := rand.New(rand.NewSource(2))
	many := map[api.Errno]int{}
	for range 6000 {
		c := someClock(r, 8)
		if e := clock.CheckClock(c); e != api.OK {
			t.Fatal(c, e)
		}
		at := someReading(r, c)
		want, exists := offsetAt(c, at)
		wantErr := api.OK
		if _, _, torn := firstContradiction(c); torn {
			want, wantErr = api.Span{}, api.ErrNone
		} else if !exists {
			t.Fatal("a sound clock without an offset", c, at)
		}
		o, e := clock.At(c, at)
		same(t, c, o, e, want, wantErr)
		many[e]++
	}
	if many[api.OK] < 1000 || many[api.ErrNone] < 1000 {
		t.Error(many)
	}
}

// P5.2: a clock with all exchanges that it can have.
func TestAtOfMany(t *testing.T) {
	var l []api.Exchange
	for i := range int64(64) {
		l = append(l, showing(1000000+1000*i, 100-i, 164+i))
	}
	for i := range 64 {
		c := clockOf(1000, l...)
		c.Exchanges[i] = showing(1000000, 130, 131)
		o, e := clock.At(c, 1000000)
		same(t, i, o, e, span(130, 131), api.OK)
		c.Exchanges[i] = showing(1000000+1000*int64(i), 100-int64(i), 164+int64(i))
	}
}
