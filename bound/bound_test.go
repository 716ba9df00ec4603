package bound_test

import (
	"math"
	"testing"

	"isobath/api"
	"isobath/bound"
)

// P1.1: Check.
func TestCheck(t *testing.T) {
	for _, a := range wild() {
		want := api.OK
		if !valid(a) {
			want = api.ErrArg
		}
		if e := bound.Check(a); e != want {
			t.Error(a, e)
		}
	}
}

// The chapter's examples of arithmetic, and those of DOC.md.
func TestExamplesOfArithmetic(t *testing.T) {
	for i, x := range []struct {
		do         two
		a, b, want api.Span
	}{
		{bound.Add, span(-3, 5), span(2, 4), span(-1, 9)},
		{bound.Sub, span(-3, 5), span(2, 4), span(-7, 3)},
		{bound.Mul, span(-3, 5), span(2, 4), span(-12, 20)},
		{bound.Mul, span(1, 2), span(-3, 4), span(-6, 8)},
		{bound.Div, span(7, 9), span(-4, -2), span(-5, -1)},
		{bound.Div, span(1, 2), span(3, 3), span(0, 1)},
	} {
		if s, e := x.do(x.a, x.b); s != x.want || e != api.OK {
			t.Error(i, s, e)
		}
	}
	if s, e := bound.Scale(span(-3, 5), -2, 3); s != span(-4, 2) || e != api.OK {
		t.Error(s, e)
	}
	if s, e := bound.Root(span(5, 17)); s != span(2, 5) || e != api.OK {
		t.Error(s, e)
	}
	if s, e := bound.Line(0, span(0, 10), 10, span(5, 20), 3); s != span(1, 13) || e != api.OK {
		t.Error(s, e)
	}
}

// agrees compares a function of two spans with what the chapter says, for
// ordinary spans, for those at the limits, and for those that are not valid.
func agrees(t *testing.T, do, want two) {
	t.Helper()
	for _, l := range [][]api.Span{validSpans(-4, 4), wild()} {
		for _, a := range l {
			for _, b := range l {
				w, f := api.Span{}, api.ErrArg
				if valid(a) && valid(b) {
					w, f = want(a, b)
				}
				if s, e := do(a, b); s != w || e != f {
					t.Fatal(a, b, "gives", s, e, "not", w, f)
				}
			}
		}
	}
}

// P1.2: Add, Sub and Mul.
func TestAddSubMul(t *testing.T) {
	agrees(t, bound.Add, func(a, b api.Span) (api.Span, api.Errno) {
		return outward(plus(whole(a.Lo), whole(b.Lo)), plus(whole(a.Hi), whole(b.Hi)))
	})
	agrees(t, bound.Sub, func(a, b api.Span) (api.Span, api.Errno) {
		return outward(minus(whole(a.Lo), whole(b.Hi)), minus(whole(a.Hi), whole(b.Lo)))
	})
	agrees(t, bound.Mul, func(a, b api.Span) (api.Span, api.Errno) {
		return outward(
			times(whole(a.Lo), whole(b.Lo)), times(whole(a.Lo), whole(b.Hi)),
			times(whole(a.Hi), whole(b.Lo)), times(whole(a.Hi), whole(b.Hi)))
	})
}

// P1.2: a result at the limit is possible, one above it is ErrOver, at each end.
func TestOver(t *testing.T) {
	for i, x := range []struct {
		do   two
		a, b api.Span
		want api.Span
		e    api.Errno
	}{
		{bound.Add, span(0, most-1), span(0, 1), span(0, most), api.OK},
		{bound.Add, span(0, most-1), span(0, 2), api.Span{}, api.ErrOver},
		{bound.Add, span(1-most, 0), span(-1, 0), span(-most, 0), api.OK},
		{bound.Add, span(1-most, 0), span(-2, 0), api.Span{}, api.ErrOver},
		{bound.Sub, span(0, most-1), span(-1, 0), span(0, most), api.OK},
		{bound.Sub, span(0, most-1), span(-2, 0), api.Span{}, api.ErrOver},
		{bound.Sub, span(1-most, 0), span(0, 1), span(-most, 0), api.OK},
		{bound.Sub, span(1-most, 0), span(0, 2), api.Span{}, api.ErrOver},
		{bound.Mul, span(-1<<15, 0), span(0, 1<<15), span(-most, 0), api.OK},
		{bound.Mul, span(-1<<15, 0), span(0, 1<<15+1), api.Span{}, api.ErrOver},
		{bound.Mul, span(most, most), span(-most, most), api.Span{}, api.ErrOver},
		{bound.Mul, span(-most, most), span(1, 1), span(-most, most), api.OK},
		{bound.Div, span(-most, most), span(-1, -1), span(-most, most), api.OK},
	} {
		if s, e := x.do(x.a, x.b); s != x.want || e != x.e {
			t.Error(i, s, e)
		}
	}
}

// P1.3: Scale.
func TestScale(t *testing.T) {
	numbers := []int64{math.MinInt64, -most - 1, -most, -7, -3, -1, 0, 1, 2, 5, most - 1, most, most + 1, math.MaxInt64}
	for _, a := range append(validSpans(-5, 5), wild()...) {
		for _, n := range numbers {
			for _, d := range numbers {
				w, f := api.Span{}, api.ErrRange
				if !valid(a) {
					f = api.ErrArg
				} else if -most <= n && n <= most && 1 <= d && d <= most {
					by := over(whole(n), whole(d))
					w, f = outward(times(whole(a.Lo), by), times(whole(a.Hi), by))
				}
				if s, e := bound.Scale(a, n, d); s != w || e != f {
					t.Fatal(a, n, d, "gives", s, e, "not", w, f)
				}
			}
		}
	}
}

// P1.3: Div.
func TestDiv(t *testing.T) {
	agrees(t, bound.Div, func(a, b api.Span) (api.Span, api.Errno) {
		if b.Lo <= 0 && b.Hi >= 0 {
			return api.Span{}, api.ErrZero
		}
		return outward(
			over(whole(a.Lo), whole(b.Lo)), over(whole(a.Lo), whole(b.Hi)),
			over(whole(a.Hi), whole(b.Lo)), over(whole(a.Hi), whole(b.Hi)))
	})
	if _, e := bound.Div(span(2, 1), span(0, 0)); e != api.ErrArg {
		t.Error("a span that is not valid comes before a divisor with 0:", e)
	}
}

// P1.4: Root.
func TestRoot(t *testing.T) {
	l := append(validSpans(-2, 40), wild()...)
	for r := int64(1<<15 - 3); r <= 1<<15; r++ {
		l = append(l, span(r*r-1, r*r-1), span(r*r, r*r), span(0, r*r), span(0, r*r-1))
	}
	for _, a := range l {
		w, f := api.Span{}, api.OK
		switch {
		case !valid(a):
			f = api.ErrArg
		case a.Lo < 0:
			f = api.ErrRange
		default:
			w = rootOf(a.Lo, a.Hi)
		}
		if s, e := bound.Root(a); s != w || e != f {
			t.Fatal(a, "gives", s, e, "not", w, f)
		}
	}
}

// P1.4: Grow.
func TestGrow(t *testing.T) {
	for _, a := range append(validSpans(-2, 2), wild()...) {
		for _, by := range []int64{math.MinInt64, -1, 0, 1, 5, most - 1, most, most + 1, math.MaxInt64} {
			w, f := api.Span{}, api.OK
			switch {
			case !valid(a):
				f = api.ErrArg
			case by < 0 || by > most:
				f = api.ErrRange
			default:
				w, f = outward(whole(a.Lo-by), whole(a.Hi+by))
			}
			if s, e := bound.Grow(a, by); s != w || e != f {
				t.Fatal(a, by, "gives", s, e, "not", w, f)
			}
		}
	}
}

// P1.5: Hull and Meet.
func TestHullMeet(t *testing.T) {
	agrees(t, bound.Hull, func(a, b api.Span) (api.Span, api.Errno) {
		return outward(whole(a.Lo), whole(a.Hi), whole(b.Lo), whole(b.Hi))
	})
	agrees(t, bound.Meet, func(a, b api.Span) (api.Span, api.Errno) {
		if a.Hi < b.Lo || b.Hi < a.Lo {
			return api.Span{}, api.ErrNone
		}
		return span(max(a.Lo, b.Lo), min(a.Hi, b.Hi)), api.OK
	})
}

// lineEnd returns an end of a line.
func lineEnd(t0, x, t1, y, t int64) [2]int64 {
	s, _ := outward(over(
		plus(times(whole(x), whole(t1-t)), times(whole(y), whole(t-t0))),
		whole(t1-t0)))
	return [2]int64{s.Lo, s.Hi}
}

// P1.6: Line.
func TestLine(t *testing.T) {
	times := []int64{math.MinInt64, -1, 0, 1, 2, 5, 9, most - 1, most, most + 1, math.MaxInt64}
	l := append(spans(-most, -7, 0, 3, most), span(0, most+1), span(math.MinInt64, 0))
	for _, a := range l {
		for _, b := range l {
			for i := range len(times) * len(times) * len(times) {
				t0, t1, at := times[i%11], times[i/11%11], times[i/121]
				w, f := api.Span{}, api.OK
				switch {
				case !valid(a) || !valid(b):
					f = api.ErrArg
				case t0 < 0 || t0 > most || t1 < 0 || t1 > most || t0 >= t1 || at < t0 || at > t1:
					f = api.ErrRange
				default:
					w = span(lineEnd(t0, a.Lo, t1, b.Lo, at)[0], lineEnd(t0, a.Hi, t1, b.Hi, at)[1])
				}
				if s, e := bound.Line(t0, a, t1, b, at); s != w || e != f {
					t.Fatal(t0, a, t1, b, at, "gives", s, e, "not", w, f)
				}
			}
		}
	}
}

// P1.6: at both of its times a line has just the spans that are given.
func TestLineAtItsEnds(t *testing.T) {
	for _, a := range validSpans(-3, 3) {
		for _, b := range validSpans(-3, 3) {
			if s, e := bound.Line(4, a, 11, b, 4); s != a || e != api.OK {
				t.Error(a, b, s, e)
			}
			if s, e := bound.Line(4, a, 11, b, 11); s != b || e != api.OK {
				t.Error(a, b, s, e)
			}
		}
	}
}
