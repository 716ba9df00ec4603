package clock_test

import (
	"math"
	"math/rand"
	"testing"

	"isobath/api"
	"isobath/clock"
)

// contradictions compares what Contradiction returns with what is wanted.
func contradictions(t *testing.T, name any, c api.Clock, i, k int, want api.Errno) {
	t.Helper()
	if j, l, e := clock.Contradiction(c); j != i || l != k || e != want {
		t.Fatalf("%v: %v %v, %v; want %v %v, %v", name, j, l, e, i, k, want)
	}
}

// at1000 returns a clock whose exchanges all came back at 1000, with these
// offsets.
func at1000(l ...api.Span) api.Clock {
	c := clockOf(1000)
	for _, a := range l {
		c.Exchanges = append(c.Exchanges, showing(1000, a.Lo, a.Hi))
	}
	return c
}

// P5.3: which pair is returned of several ones that contradict each other.
func TestContradiction(t *testing.T) {
	a, b, c, d := span(0, 10), span(20, 30), span(40, 50), span(60, 70)
	ab, bc, all := span(5, 25), span(25, 45), span(0, 70)
	for n, x := range []struct {
		l    []api.Span
		i, k int
		e    api.Errno
	}{
		{[]api.Span{a}, 0, 0, api.ErrNone},
		{[]api.Span{a, a}, 0, 0, api.ErrNone},
		{[]api.Span{a, ab, all}, 0, 0, api.ErrNone},
		{[]api.Span{a, b}, 0, 1, api.OK},
		{[]api.Span{b, a}, 0, 1, api.OK},
		{[]api.Span{a, b, c, d}, 0, 1, api.OK},
		{[]api.Span{all, a, b}, 1, 2, api.OK},
		{[]api.Span{a, all, b}, 0, 2, api.OK},
		{[]api.Span{a, all, b, c}, 0, 2, api.OK},
		{[]api.Span{all, all, all, all}, 0, 0, api.ErrNone},
		{[]api.Span{all, a, all, b, all}, 1, 3, api.OK},
		// (1, 2) comes before (0, 3), and (0, 3) before (1, 3).
		{[]api.Span{ab, span(0, 22), bc, c}, 1, 2, api.OK},
		{[]api.Span{ab, a, all, c}, 0, 3, api.OK},
		{[]api.Span{all, b, ab, all, bc, c}, 1, 5, api.OK},
		{[]api.Span{all, all, all, a, all, d}, 3, 5, api.OK},
		{[]api.Span{all, bc, all, ab, a}, 1, 4, api.OK},
	} {
		contradictions(t, n, at1000(x.l...), x.i, x.k, x.e)
	}
	contradictions(t, "example", example(), 0, 0, api.ErrNone)
	contradictions(t, "no exchanges", clockOf(0), 0, 0, api.ErrMany)
	contradictions(t, "not valid", clockOf(-1, torn().Exchanges...), 0, 0, api.ErrArg)
}

// P5.3: two offsets that have just one number in common do not contradict each
// other, and one of them is grown to the reading of the other one.
func TestContradictionGrows(t *testing.T) {
	const billion = 1000000000
	for n, x := range []struct {
		rate int64
		a, b api.Exchange
		e    api.Errno
	}{
		{0, showing(1000, 0, 10), showing(1000, 10, 20), api.ErrNone},
		{0, showing(1000, 0, 10), showing(1000, 11, 20), api.OK},
		{0, showing(1000, 0, 10), showing(instant-1000, 11, 20), api.OK},
		{1000000, showing(1000, 0, 10), showing(1000, 11, 20), api.OK},
		{1000000, showing(1000, 0, 10), showing(1001, 11, 20), api.ErrNone},
		{1000000, showing(1000, 0, 10), showing(2000, 11, 20), api.ErrNone},
		{1000000, showing(1000, 0, 10), showing(2000, 12, 20), api.OK},
		{1000000, showing(1000, 0, 10), showing(2001, 12, 20), api.ErrNone},
		{1000000, showing(1000, 0, 10), showing(2001, 13, 20), api.OK},
		{1, showing(1000, 0, 10), showing(1000+3*billion, 13, 20), api.ErrNone},
		{1, showing(1000, 0, 10), showing(1000+3*billion, 14, 20), api.OK},
		{1, showing(1000, 0, 10), showing(1001+3*billion, 14, 20), api.ErrNone},
		{1000000, showing(1000, -20, -10), showing(1<<49, 1<<30, 1<<30), api.ErrNone},
		{0, showing(1000, -20, -10), showing(1<<49, 1<<30, 1<<30), api.OK},
		{1000000, showing(1<<40, -1<<30, -1<<30), showing(1<<40+1000*(1<<31-1)+1, 1<<30, 1<<30), api.ErrNone},
		{1000000, showing(1<<40, -1<<30, -1<<30), showing(1<<40+1000*(1<<31-1), 1<<30, 1<<30), api.OK},
	} {
		k, check := 1, api.OK
		if x.e != api.OK {
			k, check = 0, api.ErrSum
		}
		for _, c := range []api.Clock{clockOf(x.rate, x.a, x.b), clockOf(x.rate, x.b, x.a)} {
			contradictions(t, n, c, 0, k, x.e)
			for _, p := range [][2]int{{0, 1}, {1, 0}} {
				if e := clock.CheckContradiction(c, p[0], p[1]); e != check {
					t.Error(n, p, e)
				}
			}
		}
	}
}

// P5.3: the indexes of CheckContradiction in both orders, equal, and beyond the
// exchanges.
func TestCheckContradiction(t *testing.T) {
	c := at1000(span(0, 10), span(5, 25), span(20, 30), span(40, 50))
	want := [4][4]bool{0: {2: true, 3: true}, 1: {3: true}, 2: {0: true, 3: true}, 3: {0: true, 1: true, 2: true}}
	for i := range 4 {
		for k := range 4 {
			wantErr := api.ErrSum
			if want[i][k] {
				wantErr = api.OK
			}
			if e := clock.CheckContradiction(c, i, k); e != wantErr {
				t.Error(i, k, e)
			}
		}
	}
	for _, x := range []int{math.MinInt, -2, -1, 4, 5, 64, math.MaxInt} {
		for _, p := range [][2]int{{0, x}, {x, 0}, {x, x}, {3, x}, {x, 3}} {
			if e := clock.CheckContradiction(c, p[0], p[1]); e != api.ErrRange {
				t.Error(p, e)
			}
			if e := clock.CheckContradiction(clockOf(-1, c.Exchanges...), p[0], p[1]); e != api.ErrArg {
				t.Error(p, e)
			}
			if e := clock.CheckContradiction(clockOf(0), p[0], p[1]); e != api.ErrMany {
				t.Error(p, e)
			}
		}
	}
	if e := clock.CheckContradiction(clockOf(0, showing(1000, 0, 10)), 0, 0); e != api.ErrSum {
		t.Error(e)
	}
}

// P5.3 and P5.9: the pair is the first one by the definition; At finds no
// offset just if there is one; and CheckContradiction accepts just such pairs.
func TestContradictionIsDefined(t *testing.T) {
	r := rand.New(rand.NewSource(3))
	many := map[api.Errno]int{}
	for range 3000 {
		c := someClock(r, 10)
		i, k, torn := firstContradiction(c)
		want, wantAt := api.ErrNone, api.OK
		if torn {
			want, wantAt = api.OK, api.ErrNone
		}
		contradictions(t, c, c, i, k, want)
		many[want]++
		if _, e := clock.At(c, someReading(r, c)); e != wantAt {
			t.Fatal(c, e)
		}
		if e := clock.CheckContradiction(c, i, k); torn && e != api.OK {
			t.Fatal(c, i, k, e)
		}
		for i := range c.Exchanges {
			for k := range c.Exchanges {
				if e := clock.CheckContradiction(c, i, k); (e == api.OK) != contradictory(c, i, k) || e != api.OK && e != api.ErrSum {
					t.Fatal(c, i, k, e)
				}
			}
		}
	}
	if many[api.OK] < 500 || many[api.ErrNone] < 500 {
		t.Error(many)
	}
}

// P5.3: the last two of all exchanges that a clock can have.
func TestContradictionOfTheLast(t *testing.T) {
	var l []api.Span
	for range 62 {
		l = append(l, span(0, 70))
	}
	contradictions(t, "last", at1000(append(l, span(0, 10), span(11, 20))...), 62, 63, api.OK)
	contradictions(t, "none", at1000(append(l, span(0, 11), span(11, 20))...), 0, 0, api.ErrNone)
}
