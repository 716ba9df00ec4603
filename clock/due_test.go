package clock_test

import (
	"math/rand"
	"testing"

	"isobath/api"
	"isobath/clock"
)

// due compares what Due returns with what is wanted.
func due(t *testing.T, name any, c api.Clock, limit, want int64, wantErr api.Errno) {
	t.Helper()
	if at, e := clock.Due(c, limit); at != want || e != wantErr {
		t.Fatalf("%v: %v, %v; want %v, %v", name, at, e, want, wantErr)
	}
}

// widthAt returns the width of the offset of a clock at a reading.
func widthAt(t *testing.T, c api.Clock, at int64) int64 {
	t.Helper()
	o, e := clock.At(c, at)
	if e != api.OK {
		t.Fatal(c, at, e)
	}
	return o.Hi - o.Lo
}

// P5.4: the chapter's examples.
func TestExamplesOfDue(t *testing.T) {
	due(t, 14, example(), 14, 2001031, api.OK)
	due(t, 12, example(), 12, 2000060, api.OK)
}

// P5.4: the limit is passed at the greatest Back, later, just at the end, or
// never; wherever the greatest Back is in the list.
func TestDue(t *testing.T) {
	const most, billion = api.MaxValue, 1000000000
	early, late, wide := showing(1000000, 0, 10), showing(1005000, 4, 30), showing(990000, -90, 90)
	end := showing(instant-1000, -10, 0)
	for n, x := range []struct {
		c           api.Clock
		limit, want int64
		e           api.Errno
	}{
		{clockOf(1000000, early), 0, 1000000, api.OK},
		{clockOf(1000000, early), 9, 1000000, api.OK},
		{clockOf(1000000, early), 10, 1000001, api.OK},
		{clockOf(1000000, early), 11, 1000001, api.OK},
		{clockOf(1000000, early), 12, 1001001, api.OK},
		{clockOf(1000000, early), 13, 1001001, api.OK},
		{clockOf(1000000, early), most, 1000000 + (most-10)/2*1000 + 1, api.OK},
		{clockOf(1, early), 11, 1000001, api.OK},
		{clockOf(1, early), 12, 1000001 + billion, api.OK},
		{clockOf(1, early), 2251808, 1000001 + 1125899*billion, api.OK},
		{clockOf(1, early), 2251809, 1000001 + 1125899*billion, api.OK},
		{clockOf(1, early), 2251810, 0, api.ErrPlan},
		{clockOf(1, early), most, 0, api.ErrPlan},
		// Without a rate it is passed at once, or never.
		{clockOf(0, early), 9, 1000000, api.OK},
		{clockOf(0, early), 10, 0, api.ErrPlan},
		{clockOf(0, showing(1000, 5, 5)), 0, 0, api.ErrPlan},
		{clockOf(0, showing(1<<40, -most, 0)), most, 0, api.ErrPlan},
		{clockOf(0, showing(1<<40, -most, 0)), most - 1, 1 << 40, api.OK},
		// Before the greatest Back the offset may be wider.
		{clockOf(1000000, early, late), 10, 1005000, api.OK},
		{clockOf(1000000, early, late), 11, 1005001, api.OK},
		{clockOf(1000000, late, early), 11, 1005001, api.OK},
		{clockOf(1000000, late, wide, early), 11, 1005001, api.OK},
		{clockOf(1000000, wide, late, early), 11, 1005001, api.OK},
		{clockOf(1000000, early, late, wide), 13, 1006001, api.OK},
		{clockOf(1000000, early, late, wide), 10, 1005000, api.OK},
		// The end of all times.
		{clockOf(1000000, end), 11, instant - 999, api.OK},
		{clockOf(1000000, end), 12, 0, api.ErrPlan},
		{clockOf(1000000, showing(instant-1001, -10, 0)), 12, instant, api.OK},
		{clockOf(1000000, showing(instant-1001, -10, 0)), 13, instant, api.OK},
		{clockOf(1000000, showing(instant-1001, -10, 0)), 14, 0, api.ErrPlan},
		{clockOf(1000000, showing(instant-1, -10, -5)), 5, instant, api.OK},
		{clockOf(1000000, showing(instant, -10, -5)), 5, 0, api.ErrPlan},
		{clockOf(1000000, showing(instant, -10, -5)), 4, instant, api.OK},
	} {
		due(t, n, x.c, x.limit, x.want, x.e)
	}
}

// P5.4: the limit may be at its limits, and not beyond them; clocks that are
// not sound.
func TestDueErrors(t *testing.T) {
	for _, limit := range append(wildNumbers(), -1, api.MaxValue+1) {
		due(t, limit, example(), limit, 0, api.ErrRange)
		due(t, limit, torn(), limit, 0, api.ErrRange)
		due(t, limit, clockOf(-1, torn().Exchanges...), limit, 0, api.ErrArg)
		due(t, limit, clockOf(-1), limit, 0, api.ErrMany)
	}
	for _, limit := range []int64{0, 1, 20, api.MaxValue} {
		due(t, limit, torn(), limit, 0, api.ErrNone)
	}
}

// P5.4 and P5.11: at the reading that is due the offset is wider than the limit,
// and at those before it, from the greatest Back on, it is not.
func TestDueIsTheFirst(t *testing.T) {
	r := rand.New(rand.NewSource(4))
	many := map[api.Errno]int{}
	for range 3000 {
		c := soundClock(r, 6)
		from := greatestBack(c)
		width := widthAt(t, c, from)
		limit := min(max(0, width-3+amount(r, 1<<[]int{3, 8, 30}[r.Intn(3)])), api.MaxValue)
		at, e := clock.Due(c, limit)
		many[e]++
		if e == api.ErrPlan {
			if w := widthAt(t, c, instant); w > limit || at != 0 {
				t.Fatal(c, limit, at, w)
			}
			continue
		}
		if e != api.OK || at < from || at > instant || widthAt(t, c, at) <= limit {
			t.Fatal(c, limit, at, e)
		}
		for _, before := range []int64{at - 1, at - 2, at - r.Int63n(1000) - 1, from, from + r.Int63n(at-from+1)} {
			if from <= before && before < at && widthAt(t, c, before) > limit {
				t.Fatal(c, limit, at, before)
			}
		}
	}
	if many[api.OK] < 1000 || many[api.ErrPlan] < 100 {
		t.Error(many)
	}
}

// P5.4 and P5.11: all readings are looked at, up to the first one that is wider.
func TestDueOfAllReadings(t *testing.T) {
	r := rand.New(rand.NewSource(5))
	for range 300 {
		c := clockOf(1000000-r.Int63n(1000), someExchange(r, r.Int63n(1000), 500), someExchange(r, r.Int63n(9000), 500))
		if _, _, torn := firstContradiction(c); torn {
			continue
		}
		at := greatestBack(c)
		for limit := widthAt(t, c, at); limit < widthAt(t, c, greatestBack(c))+12; limit++ {
			for widthAt(t, c, at) <= limit {
				at++
			}
			due(t, c, c, limit, at, api.OK)
		}
	}
}
