package clock_test

import (
	"math/rand"
	"testing"

	"isobath/api"
	"isobath/clock"
)

// P5.1: the chapter's examples.
func TestExamplesOfOffset(t *testing.T) {
	for i, want := range []api.Span{span(995, 1005), span(979, 1010)} {
		o, e := clock.Offset(example().Exchanges[i], example().Rate)
		same(t, i, o, e, want, api.OK)
	}
}

// exchangeAt returns an exchange with these times, and delays from 5 to 15.
func exchangeAt(sent, heard, answered, back int64) api.Exchange {
	return api.Exchange{Sent: sent, Heard: heard, Answered: answered, Back: back, Forth: span(5, 15), Home: span(5, 15)}
}

// P5.1: each time of an exchange may be at its limits, and not beyond them; and
// the order of both times of each clock.
func TestCheckExchangeTimes(t *testing.T) {
	for _, x := range []struct {
		x    api.Exchange
		want api.Errno
	}{
		{exchangeAt(0, 0, 0, 0), api.OK},
		{exchangeAt(1, 1, 1, 1), api.OK},
		{exchangeAt(instant, instant, instant, instant), api.OK},
		{exchangeAt(0, 0, instant, instant), api.OK},
		{exchangeAt(0, instant, instant, 0), api.OK},
		{exchangeAt(instant, 0, 0, instant), api.OK},
		{exchangeAt(instant-1, instant-1, instant, instant), api.OK},
		{exchangeAt(7, 3, 3, 7), api.OK},
		{exchangeAt(-1, 0, 0, 0), api.ErrArg},
		{exchangeAt(0, -1, 0, 0), api.ErrArg},
		{exchangeAt(-1, 0, 0, -1), api.ErrArg},
		{exchangeAt(0, -1, -1, 0), api.ErrArg},
		{exchangeAt(0, 0, 0, instant+1), api.ErrArg},
		{exchangeAt(0, 0, instant+1, 0), api.ErrArg},
		{exchangeAt(instant+1, 0, 0, instant+1), api.ErrArg},
		{exchangeAt(0, instant+1, instant+1, 0), api.ErrArg},
		{exchangeAt(8, 3, 3, 7), api.ErrArg},
		{exchangeAt(7, 4, 3, 7), api.ErrArg},
		{exchangeAt(8, 4, 4, 7), api.ErrArg},
		{exchangeAt(instant, 0, 0, 0), api.ErrArg},
		{exchangeAt(0, instant, 0, 0), api.ErrArg},
		{exchangeAt(5, 9, 4, 10), api.ErrArg},
		{api.Exchange{}, api.OK},
	} {
		if e := clock.CheckExchange(x.x); e != x.want {
			t.Error(x.x, e)
		}
	}
	for i := range 4 {
		for _, w := range wildNumbers() {
			x := example().Exchanges[0]
			*[]*int64{&x.Sent, &x.Heard, &x.Answered, &x.Back}[i] = w
			if e := clock.CheckExchange(x); e != api.ErrArg {
				t.Error(x, e)
			}
		}
	}
}

// P5.1: both delays may be at their limits, and not beyond them.
func TestCheckExchangeDelays(t *testing.T) {
	for i := range 2 {
		try := func(a api.Span, want api.Errno) {
			t.Helper()
			x := example().Exchanges[0]
			*[]*api.Span{&x.Forth, &x.Home}[i] = a
			if e := clock.CheckExchange(x); e != want {
				t.Error(x, e)
			}
		}
		const most = api.MaxValue
		for _, a := range []api.Span{span(0, 0), span(0, 1), span(0, most), span(most-1, most), span(most, most)} {
			try(a, api.OK)
		}
		for _, a := range badSpans(0, most) {
			try(a, api.ErrArg)
		}
	}
}

// P5.1: offsets whose ends come from the one message or from the other one, and
// that are grown and rounded.
func TestOffset(t *testing.T) {
	const billion = 1000000000
	wide := span(0, api.MaxValue)
	for i, x := range []struct {
		x    api.Exchange
		rate int64
		want api.Span
		e    api.Errno
	}{
		{api.Exchange{}, 0, span(0, 0), api.OK},
		{api.Exchange{}, api.MaxClockRate, span(0, 0), api.OK},
		// Only the first message is grown, as the answer has just come back.
		{api.Exchange{Sent: 100, Heard: 600, Answered: 600, Back: 200, Forth: span(10, 20), Home: wide}, 0, span(480, 490), api.OK},
		{api.Exchange{Sent: 100, Heard: 600, Answered: 600, Back: 200, Forth: span(10, 20), Home: wide}, 1, span(479, 491), api.OK},
		{api.Exchange{Sent: 100, Heard: 600, Answered: 600, Back: 200, Forth: wide, Home: span(10, 20)}, 1000000, span(410, 420), api.OK},
		// Each of both tells one end.
		{api.Exchange{Sent: 100, Heard: 600, Answered: 600, Back: 200, Forth: span(10, 40), Home: span(50, 80)}, 0, span(460, 480), api.OK},
		{api.Exchange{Sent: 100, Heard: 600, Answered: 600, Back: 200, Forth: span(20, 50), Home: span(65, 99)}, 0, span(465, 480), api.OK},
		{api.Exchange{Sent: 100, Heard: 600, Answered: 600, Back: 200, Forth: span(20, 50), Home: span(40, 60)}, 0, span(450, 460), api.OK},
		// They have just one number in common, or just none.
		{api.Exchange{Sent: 100, Heard: 600, Answered: 600, Back: 200, Forth: span(20, 50), Home: span(80, 90)}, 0, span(480, 480), api.OK},
		{api.Exchange{Sent: 100, Heard: 600, Answered: 600, Back: 200, Forth: span(20, 50), Home: span(81, 90)}, 0, api.Span{}, api.ErrNone},
		{api.Exchange{Sent: 100, Heard: 600, Answered: 600, Back: 200, Forth: span(20, 50), Home: span(81, 90)}, 1, span(481, 481), api.OK},
		{api.Exchange{Sent: 100, Heard: 600, Answered: 600, Back: 200, Forth: span(20, 50), Home: span(82, 90)}, 1, api.Span{}, api.ErrNone},
		{api.Exchange{Sent: 100, Heard: 600, Answered: 600, Back: 200, Forth: span(20, 50), Home: span(10, 50)}, 0, span(450, 450), api.OK},
		{api.Exchange{Sent: 100, Heard: 600, Answered: 600, Back: 200, Forth: span(20, 50), Home: span(10, 49)}, 0, api.Span{}, api.ErrNone},
		{api.Exchange{Sent: 100, Heard: 600, Answered: 600, Back: 200, Forth: span(20, 50), Home: span(10, 49)}, 1, span(449, 449), api.OK},
		{api.Exchange{Sent: 100, Heard: 600, Answered: 600, Back: 200, Forth: span(20, 50), Home: span(10, 48)}, 1, api.Span{}, api.ErrNone},
		// The parent takes its time between both messages.
		{api.Exchange{Sent: 0, Heard: 50, Answered: 70, Back: 100, Forth: span(45, 55), Home: span(25, 35)}, 0, span(-5, 5), api.OK},
		// The growth is rounded up, and only if it has to be.
		{api.Exchange{Back: billion, Answered: billion, Forth: exactly(0), Home: wide}, 1, span(0, 1), api.OK},
		{api.Exchange{Back: billion + 1, Answered: billion, Forth: exactly(0), Home: wide}, 1, span(-1, 2), api.OK},
		{api.Exchange{Back: billion - 1, Answered: billion - 100, Forth: exactly(0), Home: wide}, 1, span(-1, 1), api.OK},
		{api.Exchange{Back: 1000, Answered: 900, Forth: exactly(0), Home: wide}, 1000000, span(-1, 1), api.OK},
		{api.Exchange{Back: 1001, Answered: 900, Forth: exactly(0), Home: wide}, 1000000, span(-2, 2), api.OK},
		{api.Exchange{Back: 1999, Answered: 900, Forth: exactly(0), Home: wide}, 999999, span(-2, 2), api.OK},
		{api.Exchange{Back: instant, Answered: instant - 1<<28, Forth: exactly(0), Home: wide}, 0, span(0, 0), api.OK},
		{api.Exchange{Back: instant, Answered: instant - 1<<28, Forth: exactly(0), Home: wide}, 1, span(-1125900, 1125900), api.OK},
		// Offsets far beyond MaxValue, and growths beyond it.
		{api.Exchange{Heard: instant, Answered: instant, Home: exactly(7), Forth: wide}, 0, api.Span{}, api.ErrNone},
		{api.Exchange{Heard: instant, Answered: instant, Home: exactly(0), Forth: exactly(0)}, 0, exactly(instant), api.OK},
		{api.Exchange{Sent: instant, Back: instant, Home: wide, Forth: wide}, 0, exactly(-instant), api.OK},
		{api.Exchange{Back: instant, Heard: 0, Answered: instant, Home: exactly(1 << 30), Forth: exactly(0)}, 1000000, exactly(1 << 30), api.OK},
		{api.Exchange{Back: instant, Answered: instant - 1125899906843, Home: exactly(0), Forth: exactly(0)}, 1000000, exactly(-1125899906843), api.OK},
		{api.Exchange{Back: instant, Answered: instant - 1125899906844, Home: exactly(0), Forth: exactly(0)}, 1000000, api.Span{}, api.ErrNone},
		{api.Exchange{Back: instant, Answered: instant - 1125898780943, Home: exactly(0), Forth: exactly(0)}, 999999, exactly(-1125898780943), api.OK},
		{api.Exchange{Back: instant, Answered: instant - 1125898780944, Home: exactly(0), Forth: exactly(0)}, 999999, api.Span{}, api.ErrNone},
	} {
		o, e := clock.Offset(x.x, x.rate)
		same(t, i, o, e, x.want, x.e)
	}
}

// P5.1: the rate may be at its limits, and not beyond them.
func TestOffsetRate(t *testing.T) {
	x := example().Exchanges[0]
	for _, rate := range []int64{0, 1, api.MaxClockRate - 1, api.MaxClockRate} {
		if _, e := clock.Offset(x, rate); e != api.OK {
			t.Error(rate, e)
		}
	}
	for _, rate := range append(wildNumbers(), -1, api.MaxClockRate+1) {
		o, e := clock.Offset(x, rate)
		same(t, rate, o, e, api.Span{}, api.ErrRange)
	}
}

// P5.1: Offset agrees with the definition.
func TestOffsetIsDefined(t *testing.T) {
	r := rand.New(rand.NewSource(1))
	many := map[api.Errno]int{}
	for range 20000 {
		x, rate := someExchange(r, amount(r, 1<<48), r.Int63n(1<<40)), someRate(r)
		// The parent answers much later, and the offset has changed by about as
		// much as it can.
		later := amount(r, 1<<[]int{10, 30, 48}[r.Intn(3)])
		change := growthOf(rate, later) + r.Int63n(100) - 50
		x.Back += later
		x.Answered = max(x.Heard, x.Answered+later+change*(r.Int63n(3)-1))
		want, exists := offsetOf(x, rate)
		wantErr := api.OK
		if !exists {
			want, wantErr = api.Span{}, api.ErrNone
		}
		o, e := clock.Offset(x, rate)
		same(t, x, o, e, want, wantErr)
		many[e]++
	}
	if many[api.OK] < 1000 || many[api.ErrNone] < 1000 {
		t.Error(many)
	}
}
