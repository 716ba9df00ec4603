package bound_test

import (
	"testing"

	"isobath/api"
	"isobath/bound"
)

// inside tells whether n / d, for d other than 0, is in a span.
func inside(a api.Span, n, d int64) bool {
	if d < 0 {
		n, d = -n, -d
	}
	return a.Lo*d <= n && n <= a.Hi*d
}

// P1.13: what is computed from numbers of both spans lies in the result.
func TestEnclosure(t *testing.T) {
	for _, a := range validSpans(-5, 5) {
		for _, b := range validSpans(-5, 5) {
			sum, _ := bound.Add(a, b)
			difference, _ := bound.Sub(a, b)
			product, _ := bound.Mul(a, b)
			quotient, e := bound.Div(a, b)
			for x := a.Lo; x <= a.Hi; x++ {
				for y := b.Lo; y <= b.Hi; y++ {
					if !inside(sum, x+y, 1) || !inside(difference, x-y, 1) || !inside(product, x*y, 1) {
						t.Fatal(a, b, x, y, sum, difference, product)
					}
					if e == api.OK && !inside(quotient, x, y) {
						t.Fatal(a, b, x, y, quotient)
					}
				}
			}
		}
	}
}

// P1.13: the same for multiples and roots.
func TestEnclosureOfOne(t *testing.T) {
	for _, a := range validSpans(-9, 30) {
		for n := int64(-4); n <= 4; n++ {
			for d := int64(1); d <= 5; d++ {
				s, e := bound.Scale(a, n, d)
				for x := a.Lo; x <= a.Hi; x++ {
					if e != api.OK || !inside(s, x*n, d) {
						t.Fatal(a, n, d, s, e)
					}
				}
			}
		}
		s, e := bound.Root(a)
		for x := a.Lo; x <= a.Hi && e == api.OK; x++ {
			if s.Lo < 0 || s.Lo*s.Lo > x || s.Hi*s.Hi < x {
				t.Fatal(a, s, x)
			}
		}
	}
}

// P1.13: the same for the points of a line.
func TestEnclosureOfLines(t *testing.T) {
	for _, a := range validSpans(-3, 3) {
		for _, b := range validSpans(-3, 3) {
			for at := int64(2); at <= 7; at++ {
				s, e := bound.Line(2, a, 7, b, at)
				for x := a.Lo; x <= a.Hi; x++ {
					for y := b.Lo; y <= b.Hi; y++ {
						if e != api.OK || !inside(s, x*(7-at)+y*(at-2), 5) {
							t.Fatal(a, b, at, s, e)
						}
					}
				}
			}
		}
	}
}

// P1.14: each end of a sum, a difference and a product is reached by ends.
func TestReached(t *testing.T) {
	for i, x := range []struct {
		do two
		of func(x, y int64) int64
	}{
		{bound.Add, func(x, y int64) int64 { return x + y }},
		{bound.Sub, func(x, y int64) int64 { return x - y }},
		{bound.Mul, func(x, y int64) int64 { return x * y }},
	} {
		for _, a := range validSpans(-4, 4) {
			for _, b := range validSpans(-4, 4) {
				s, e := x.do(a, b)
				reached := map[int64]bool{
					x.of(a.Lo, b.Lo): true, x.of(a.Lo, b.Hi): true,
					x.of(a.Hi, b.Lo): true, x.of(a.Hi, b.Hi): true,
				}
				if e != api.OK || !reached[s.Lo] || !reached[s.Hi] {
					t.Fatal(i, a, b, s, e)
				}
			}
		}
	}
}

// near tells whether an end is less than 1 away from one of some n / d.
func near(end int64, l ...[2]int64) bool {
	for _, x := range l {
		n, d := x[0], x[1]
		if d < 0 {
			n, d = -n, -d
		}
		if away := end*d - n; -d < away && away < d {
			return true
		}
	}
	return false
}

// P1.14: each end of a quotient and of a multiple is near a value that is reached.
func TestNear(t *testing.T) {
	for _, a := range validSpans(-7, 7) {
		for _, b := range validSpans(-7, 7) {
			s, e := bound.Div(a, b)
			l := [][2]int64{{a.Lo, b.Lo}, {a.Lo, b.Hi}, {a.Hi, b.Lo}, {a.Hi, b.Hi}}
			if e == api.OK && (!near(s.Lo, l...) || !near(s.Hi, l...)) {
				t.Fatal(a, b, s)
			}
		}
		for n := int64(-4); n <= 4; n++ {
			for d := int64(1); d <= 4; d++ {
				s, e := bound.Scale(a, n, d)
				l := [][2]int64{{a.Lo * n, d}, {a.Hi * n, d}}
				if e != api.OK || !near(s.Lo, l...) || !near(s.Hi, l...) {
					t.Fatal(a, n, d, s, e)
				}
			}
		}
	}
}

// P1.14: each end of a root is less than 1 away from the root of an end.
func TestNearOfRoots(t *testing.T) {
	for _, a := range append(validSpans(0, 40), span(1<<29, most), span(most-1, most)) {
		s, e := bound.Root(a)
		low := a.Lo < (s.Lo+1)*(s.Lo+1)
		high := a.Hi == 0 && s.Hi == 0 || (s.Hi-1)*(s.Hi-1) < a.Hi
		if e != api.OK || !low || !high {
			t.Fatal(a, s, e)
		}
	}
}

// ofOne returns functions of one span, the others of their arguments fixed.
func ofOne() []func(api.Span) (api.Span, api.Errno) {
	return []func(api.Span) (api.Span, api.Errno){
		bound.Root,
		func(a api.Span) (api.Span, api.Errno) { return bound.Scale(a, -7, 3) },
		func(a api.Span) (api.Span, api.Errno) { return bound.Scale(a, 5, 4) },
		func(a api.Span) (api.Span, api.Errno) { return bound.Grow(a, 3) },
	}
}

// ofTwo returns functions of two spans.
func ofTwo() []two {
	return []two{
		bound.Add, bound.Sub, bound.Mul, bound.Div, bound.Hull, bound.Meet,
		func(a, b api.Span) (api.Span, api.Errno) { return bound.Line(3, a, 10, b, 5) },
	}
}

// P1.15: a wider span gives a result that contains the former one.
func TestIsotone(t *testing.T) {
	small := validSpans(-3, 3)
	for _, a := range small {
		for _, wide := range small {
			if !contains(wide, a) {
				continue
			}
			for i, do := range ofOne() {
				s, e := do(a)
				w, f := do(wide)
				if e == api.OK && f == api.OK && !contains(w, s) {
					t.Fatal(i, a, wide, s, w)
				}
			}
			for i, do := range ofTwo() {
				for _, b := range small {
					isotone(t, i, do, a, wide, b)
					turned := func(a, b api.Span) (api.Span, api.Errno) { return do(b, a) }
					isotone(t, i, turned, a, wide, b)
				}
			}
		}
	}
}

// isotone compares the result for a span with that for a wider one.
func isotone(t *testing.T, i int, do two, a, wide, b api.Span) {
	t.Helper()
	s, e := do(a, b)
	w, f := do(wide, b)
	if e == api.OK && f == api.OK && !contains(w, s) {
		t.Fatal(i, a, wide, b, s, w)
	}
}

// P1.15: with wider spans an answer stays, or becomes Open; Open stays.
func TestIsotoneAnswers(t *testing.T) {
	small := validSpans(-2, 2)
	for _, ask := range []func(a, b api.Span) (api.Answer, api.Errno){bound.Less, bound.In} {
		for _, a := range small {
			for _, wide := range small {
				if !contains(wide, a) {
					continue
				}
				for _, b := range small {
					x, _ := ask(a, b)
					if y, _ := ask(wide, b); y != x && y != api.Open {
						t.Fatal(a, wide, b, x, y)
					}
				}
			}
		}
	}
}

// R10: equal calls return equal results, whatever was called in between.
func TestAgain(t *testing.T) {
	l := wild()
	for i, do := range ofTwo() {
		for _, a := range l {
			for _, b := range l {
				s, e := do(a, b)
				do(b, a)
				if again, f := do(a, b); again != s || f != e {
					t.Fatal(i, a, b, s, e, again, f)
				}
			}
		}
	}
}
