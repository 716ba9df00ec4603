package clock_test

import (
	"math"
	"math/rand"
	"slices"
	"testing"

	"isobath/api"
	"isobath/clock"
)

// steady returns a clock with a parent, a rate of 0, and an offset.
func steady(parent int, lo, hi int64) api.Clock {
	return below(parent, clockOf(0, showing(1<<40, lo, hi)))
}

// chain returns n steady clocks, each the parent of the next one.
func chain(n int) []api.Clock {
	var l []api.Clock
	for k := range n {
		l = append(l, steady(k-1, int64(-k), 10))
	}
	return l
}

// P5.5: the chapter's example.
func TestExampleOfTime(t *testing.T) {
	a, e := clock.Time([]api.Clock{example()}, api.Stamp{Clock: 0, At: 1030})
	same(t, 1030, a, e, span(2025, 2035), api.OK)
}

// P5.5: how many clocks there are, and the order of the errors of a house.
func TestCheckHouse(t *testing.T) {
	good, empty, bad := steady(-1, 0, 10), clockOf(0), clockOf(-1, showing(1000, 0, 10))
	astray := steady(5, 0, 10)
	for _, x := range []struct {
		name string
		l    []api.Clock
		want api.Errno
	}{
		{"nil", nil, api.ErrMany},
		{"none", []api.Clock{}, api.ErrMany},
		{"one", []api.Clock{good}, api.OK},
		{"32", chain(32), api.OK},
		{"33", chain(33), api.ErrMany},
		{"33, not valid", slices.Repeat([]api.Clock{bad}, 33), api.ErrMany},
		{"33, not sound", slices.Repeat([]api.Clock{torn()}, 33), api.ErrMany},
		{"empty", []api.Clock{empty}, api.ErrMany},
		{"bad", []api.Clock{bad}, api.ErrArg},
		{"astray", []api.Clock{astray}, api.ErrArg},
		{"torn", []api.Clock{torn()}, api.ErrNone},
		{"bad, empty", []api.Clock{good, bad, empty}, api.ErrArg},
		{"empty, bad", []api.Clock{good, empty, bad}, api.ErrMany},
		{"astray, empty", []api.Clock{astray, good, empty}, api.ErrMany},
		{"torn, empty", []api.Clock{torn(), empty, good}, api.ErrMany},
		{"torn, bad", []api.Clock{torn(), good, bad}, api.ErrArg},
		{"torn, astray", []api.Clock{torn(), astray}, api.ErrArg},
		{"torn in the middle", []api.Clock{good, torn(), good}, api.ErrNone},
		{"torn at last", []api.Clock{good, good, torn()}, api.ErrNone},
		{"the zero clock", make([]api.Clock, 1), api.ErrMany},
		{"the last of all bad", append(chain(31), bad), api.ErrArg},
		{"the last of all torn", append(chain(31), torn()), api.ErrNone},
	} {
		if e := clock.CheckHouse(x.l); e != x.want {
			t.Error(x.name, e)
		}
		if a, e := clock.Time(x.l, api.Stamp{}); e != x.want || e != api.OK && a != span(0, 0) {
			t.Error(x.name, a, e)
		}
		if l, e := clock.Times(x.l, nil); e != x.want || len(l) > 0 {
			t.Error(x.name, l, e)
		}
	}
}

// P5.5: the parent of each clock is Root, or comes before it.
func TestCheckHouseParents(t *testing.T) {
	for k := range 4 {
		for _, p := range []int{math.MinInt, -2, -1, 0, 1, 2, 3, 4, 32, math.MaxInt} {
			l := chain(4)
			l[k].Parent = p
			want := api.ErrArg
			if -1 <= p && p < k {
				want = api.OK
			}
			if e := clock.CheckHouse(l); e != want {
				t.Error(k, p, e)
			}
		}
	}
}

// P5.5: true times along trees, of readings that are not times, and at the ends
// of all times.
func TestTime(t *testing.T) {
	fast := clockOf(1000000, showing(1000000, 0, 10))
	tree := []api.Clock{
		steady(-1, 100, 110), steady(0, -5, 3), steady(-1, 1000, 2000), steady(1, 40, 40), steady(0, 7, 8),
	}
	for n, x := range []struct {
		l    []api.Clock
		s    api.Stamp
		want api.Span
	}{
		{tree, api.Stamp{Clock: 0, At: 50}, span(150, 160)},
		{tree, api.Stamp{Clock: 1, At: 50}, span(145, 163)},
		{tree, api.Stamp{Clock: 2, At: 50}, span(1050, 2050)},
		{tree, api.Stamp{Clock: 3, At: 50}, span(185, 203)},
		{tree, api.Stamp{Clock: 4, At: 50}, span(157, 168)},
		{tree, api.Stamp{Clock: 4, At: 0}, span(107, 118)},
		{tree, api.Stamp{Clock: 4, At: instant}, span(instant+107, instant+118)},
		// The offset of the parent is that at each end of its readings.
		{[]api.Clock{fast, steady(0, 0, 5000)}, api.Stamp{Clock: 1, At: 1000000}, span(1000000, 1005015)},
		{[]api.Clock{fast, steady(0, -5000, 0)}, api.Stamp{Clock: 1, At: 1000000}, span(994995, 1000010)},
		{[]api.Clock{fast, steady(0, -5000, 5000)}, api.Stamp{Clock: 1, At: 1000000}, span(994995, 1005015)},
		{[]api.Clock{fast, steady(0, 5000, 9001)}, api.Stamp{Clock: 1, At: 1000000}, span(1004995, 1009021)},
		{[]api.Clock{fast, below(0, fast)}, api.Stamp{Clock: 1, At: 1010000}, span(1009980, 1010041)},
		// A parent may show less than 0, and more than MaxInstant.
		{[]api.Clock{steady(-1, -50, -40), steady(0, -10, 5)}, api.Stamp{Clock: 1, At: 7}, span(-53, -28)},
		{[]api.Clock{steady(-1, 40, 50), steady(0, -10, -8)}, api.Stamp{Clock: 1, At: 7}, span(37, 49)},
		{[]api.Clock{fast, steady(0, -2001, 5)}, api.Stamp{Clock: 1, At: 0}, span(-2001-1003, 5+10+1000)},
		{[]api.Clock{fast, steady(0, -1, 1)}, api.Stamp{Clock: 1, At: instant}, span(instant-1-1125899905843, instant+1+1125899905853)},
		{[]api.Clock{fast, steady(0, 1<<30, 1<<30)}, api.Stamp{Clock: 1, At: instant},
			span(instant+1<<30-1125899905843-1073742, instant+1<<30+1125899905853+1073742)},
		{chain(32), api.Stamp{Clock: 31, At: 1000}, span(1000-31*32/2, 1000+32*10)},
		{chain(32), api.Stamp{Clock: 0, At: 1000}, span(1000, 1010)},
	} {
		a, e := clock.Time(x.l, x.s)
		same(t, n, a, e, x.want, api.OK)
		l, e := clock.Times(x.l, []api.Stamp{x.s})
		if e != api.OK || !slices.Equal(l, []api.Span{x.want}) {
			t.Error(n, l, e)
		}
	}
}

// P5.5: stamps of no clock, and readings that are not times.
func TestTimeErrors(t *testing.T) {
	l := chain(4)
	for _, k := range []int{math.MinInt, -2, -1, 4, 5, 32, math.MaxInt} {
		a, e := clock.Time(l, api.Stamp{Clock: k, At: 1000})
		same(t, k, a, e, api.Span{}, api.ErrRange)
	}
	for _, at := range append(wildNumbers(), -1, instant+1) {
		a, e := clock.Time(l, api.Stamp{Clock: 3, At: at})
		same(t, at, a, e, api.Span{}, api.ErrRange)
	}
	for _, at := range []int64{0, 1, instant - 1, instant} {
		if _, e := clock.Time(l, api.Stamp{Clock: 3, At: at}); e != api.OK {
			t.Error(at, e)
		}
	}
	// A clock that is not sound is an error also where it does not matter.
	a, e := clock.Time(append(l, torn()), api.Stamp{Clock: 0, At: 1000})
	same(t, "torn", a, e, api.Span{}, api.ErrNone)
}

// P5.5: how many stamps there are, and of which one the error is returned.
func TestTimes(t *testing.T) {
	l := chain(4)
	good, bad := api.Stamp{Clock: 3, At: 1000}, api.Stamp{Clock: 4, At: 1000}
	for _, x := range []struct {
		name string
		s    []api.Stamp
		want api.Errno
	}{
		{"nil", nil, api.OK},
		{"none", []api.Stamp{}, api.OK},
		{"one", []api.Stamp{good}, api.OK},
		{"127", slices.Repeat([]api.Stamp{good}, 127), api.OK},
		{"128", slices.Repeat([]api.Stamp{good}, 128), api.OK},
		{"129", slices.Repeat([]api.Stamp{good}, 129), api.ErrMany},
		{"129, not valid", slices.Repeat([]api.Stamp{bad}, 129), api.ErrMany},
		{"the first not valid", []api.Stamp{bad, good}, api.ErrRange},
		{"the last not valid", append(slices.Repeat([]api.Stamp{good}, 127), bad), api.ErrRange},
		{"not a time", []api.Stamp{good, {Clock: 0, At: -1}}, api.ErrRange},
	} {
		times, e := clock.Times(l, x.s)
		var want []api.Span
		if x.want == api.OK {
			want = slices.Repeat([]api.Span{span(1000-6, 1040)}, len(x.s))
		}
		if e != x.want || !slices.Equal(times, want) {
			t.Error(x.name, times, e)
		}
	}
}

// P5.5: Time and Times agree with the definition.
func TestTimesAreDefined(t *testing.T) {
	r := rand.New(rand.NewSource(6))
	for range 800 {
		l := soundHouse(r, 8)
		var stamps []api.Stamp
		var want []api.Span
		for range r.Intn(8) {
			k := r.Intn(len(l))
			s := api.Stamp{Clock: k, At: someReading(r, l[k])}
			stamps, want = append(stamps, s), append(want, trueTimeOf(l, s))
		}
		got, e := clock.Times(l, stamps)
		if e != api.OK || !slices.Equal(got, want) {
			t.Fatal(l, stamps, got, want, e)
		}
		for i, s := range stamps {
			a, e := clock.Time(l, s)
			same(t, s, a, e, want[i], api.OK)
		}
	}
}
