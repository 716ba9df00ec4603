package bound_test

import (
	"math"
	"math/bits"
	"slices"
	"testing"

	"isobath/api"
	"isobath/bound"
)

// The number i - first of a mask is in the set if its bit i is set.
const first = 4

// normal returns the normal list of a mask's numbers.
func normal(mask uint) []api.Span {
	var l []api.Span
	for i := int64(0); i < 16; i++ {
		if mask>>i&1 == 0 {
			continue
		}
		if i > 0 && mask>>(i-1)&1 == 1 {
			l[len(l)-1].Hi = i - first
		} else {
			l = append(l, span(i-first, i-first))
		}
	}
	return l
}

// maskOf returns the mask of the numbers of some valid spans.
func maskOf(l ...api.Span) uint {
	mask := uint(0)
	for _, a := range l {
		for x := a.Lo; x <= a.Hi; x++ {
			mask |= 1 << (x + first)
		}
	}
	return mask
}

// row returns n spans of the numbers from to from + wide, each by by after the
// one before it.
func row(n int, from, wide, by int64) []api.Span {
	var l []api.Span
	for i := range int64(n) {
		l = append(l, span(from+i*by, from+i*by+wide))
	}
	return l
}

// faulty returns lists that are not sets, with their errors.
func faulty() map[string]struct {
	l []api.Span
	e api.Errno
} {
	type bad = struct {
		l []api.Span
		e api.Errno
	}
	return map[string]bad{
		"touching":       {[]api.Span{span(1, 3), span(4, 5)}, api.ErrArg},
		"overlapping":    {[]api.Span{span(1, 3), span(3, 5)}, api.ErrArg},
		"equal":          {[]api.Span{span(1, 3), span(1, 3)}, api.ErrArg},
		"inside":         {[]api.Span{span(1, 9), span(3, 4)}, api.ErrArg},
		"not in order":   {[]api.Span{span(5, 6), span(1, 2)}, api.ErrArg},
		"turned":         {[]api.Span{span(2, 1)}, api.ErrArg},
		"turned later":   {[]api.Span{span(0, 0), span(5, 4)}, api.ErrArg},
		"too low":        {[]api.Span{span(-most-1, 0)}, api.ErrArg},
		"too high":       {[]api.Span{span(1, 2), span(4, most+1)}, api.ErrArg},
		"lowest":         {[]api.Span{span(1, 2), span(math.MinInt64, 5)}, api.ErrArg},
		"highest":        {[]api.Span{span(1, 2), span(math.MaxInt64, math.MaxInt64)}, api.ErrArg},
		"too many":       {row(api.MaxSpans+1, 0, 0, 2), api.ErrMany},
		"many, and bad":  {append(row(api.MaxSpans, 0, 0, 2), span(2, 1)), api.ErrMany},
		"bad, and many":  {append([]api.Span{span(2, 1)}, row(api.MaxSpans, 0, 0, 2)...), api.ErrMany},
		"last of limit":  {append(row(api.MaxSpans-1, 0, 0, 2), span(0, 0)), api.ErrArg},
		"touching below": {[]api.Span{span(-9, -6), span(-5, -5)}, api.ErrArg},
	}
}

// The chapter's examples of sets.
func TestExamplesOfSets(t *testing.T) {
	if l, e := bound.Cover([]api.Span{span(5, 6), span(1, 2), span(3, 3)}); e != api.OK || !slices.Equal(l, []api.Span{span(1, 3), span(5, 6)}) {
		t.Error(l, e)
	}
	if l, e := bound.Outside([]api.Span{span(1, 3), span(5, 6)}, span(0, 7)); e != api.OK || !slices.Equal(l, []api.Span{span(0, 0), span(4, 4), span(7, 7)}) {
		t.Error(l, e)
	}
}

// lists calls f with all lists of n of some spans.
func lists(n int, of []api.Span, f func(l []api.Span)) {
	l := make([]api.Span, n)
	var fill func(i int)
	fill = func(i int) {
		if i == n {
			f(l)
			return
		}
		for _, a := range of {
			l[i] = a
			fill(i + 1)
		}
	}
	fill(0)
}

// P1.9 and P1.17: just one list of each set of numbers is normal.
func TestCheckSet(t *testing.T) {
	for n := range 4 {
		lists(n, spans(-2, -1, 0, 1, 2, 3), func(l []api.Span) {
			want := api.OK
			if !slices.Equal(l, normal(maskOf(l...))) {
				want = api.ErrArg
			}
			if e := bound.CheckSet(l); e != want {
				t.Fatal(l, e)
			}
		})
	}
	for name, x := range faulty() {
		if e := bound.CheckSet(x.l); e != x.e {
			t.Error(name, e)
		}
	}
	for _, l := range [][]api.Span{nil, {}, row(api.MaxSpans, -7, 0, 2), {span(-most, most)}, {span(-most, -most), span(most, most)}} {
		if e := bound.CheckSet(l); e != api.OK {
			t.Error(l, e)
		}
	}
}

// P1.9: Cover returns the normal list of any spans, in any order.
func TestCover(t *testing.T) {
	for n := range 4 {
		lists(n, validSpans(-2, 4), func(l []api.Span) {
			if c, e := bound.Cover(l); e != api.OK || !slices.Equal(c, normal(maskOf(l...))) {
				t.Fatal(l, c, e)
			}
		})
	}
	for _, x := range []struct{ l, want []api.Span }{
		{[]api.Span{}, nil},
		{[]api.Span{span(most, most), span(-most, -most)}, []api.Span{span(-most, -most), span(most, most)}},
		{[]api.Span{span(0, most), span(-most, -1)}, []api.Span{span(-most, most)}},
		{[]api.Span{span(1, 9), span(2, 3), span(5, 6), span(11, 12)}, []api.Span{span(1, 9), span(11, 12)}},
		{slices.Repeat([]api.Span{span(3, 5)}, api.MaxSpans), []api.Span{span(3, 5)}},
	} {
		if c, e := bound.Cover(x.l); e != api.OK || !slices.Equal(c, x.want) {
			t.Error(x.l, c, e)
		}
	}
	full := row(api.MaxSpans, -100, 1, 3)
	back := slices.Clone(full)
	slices.Reverse(back)
	if c, e := bound.Cover(back); e != api.OK || !slices.Equal(c, full) {
		t.Error(c, e)
	}
}

// P1.9: the errors of Cover, which is not for sets only.
func TestCoverErrors(t *testing.T) {
	many := slices.Repeat([]api.Span{span(3, 5)}, api.MaxSpans+1)
	bad := []api.Span{span(2, 1), span(0, most+1), span(-most-1, 0), span(math.MaxInt64, math.MinInt64)}
	if c, e := bound.Cover(many); len(c) != 0 || e != api.ErrMany {
		t.Error(c, e)
	}
	for _, a := range bad {
		if c, e := bound.Cover([]api.Span{span(7, 8), a, span(1, 2)}); len(c) != 0 || e != api.ErrArg {
			t.Error(a, c, e)
		}
		// The list is too long before its spans are looked at (R1).
		if c, e := bound.Cover(append([]api.Span{a}, many...)); len(c) != 0 || e != api.ErrMany {
			t.Error(a, c, e)
		}
	}
}

// P1.10 and P1.17: Unite and Cut, for all sets of some numbers.
func TestUniteCut(t *testing.T) {
	for m := range uint(1 << 8) {
		for n := range uint(1 << 8) {
			s, u := normal(m), normal(n)
			if l, e := bound.Unite(s, u); e != api.OK || !slices.Equal(l, normal(m|n)) {
				t.Fatal(s, u, l, e)
			}
			if l, e := bound.Cut(s, u); e != api.OK || !slices.Equal(l, normal(m&n)) {
				t.Fatal(s, u, l, e)
			}
		}
	}
	s, u := []api.Span{span(-most, 0)}, []api.Span{span(0, most)}
	if l, e := bound.Unite(s, u); e != api.OK || !slices.Equal(l, []api.Span{span(-most, most)}) {
		t.Error(l, e)
	}
	if l, e := bound.Cut(s, u); e != api.OK || !slices.Equal(l, []api.Span{span(0, 0)}) {
		t.Error(l, e)
	}
}

// P1.10 and P1.17: Outside, for all sets of some numbers and all spans.
func TestOutside(t *testing.T) {
	for m := range uint(1 << 8) {
		for _, within := range validSpans(-4, 5) {
			s, want := normal(m), normal(maskOf(within)&^m)
			if l, e := bound.Outside(s, within); e != api.OK || !slices.Equal(l, want) {
				t.Fatal(s, within, l, e)
			}
		}
	}
	ends := []api.Span{span(-most, -most), span(most, most)}
	if l, e := bound.Outside(ends, span(-most, most)); e != api.OK || !slices.Equal(l, []api.Span{span(1-most, most-1)}) {
		t.Error(l, e)
	}
	if l, e := bound.Outside([]api.Span{span(-most, most)}, span(-most, most)); e != api.OK || len(l) != 0 {
		t.Error(l, e)
	}
}

// P1.10: a result with MaxSpans spans is possible, one with more is not.
func TestMany(t *testing.T) {
	check := func(name string, l []api.Span, e api.Errno, many bool) {
		t.Helper()
		if many && (len(l) != 0 || e != api.ErrMany) || !many && (len(l) != api.MaxSpans || e != api.OK) {
			t.Error(name, len(l), e)
		}
	}
	l, e := bound.Unite(row(128, 0, 0, 4), row(128, 2, 0, 4))
	check("Unite", l, e, false)
	l, e = bound.Unite(row(128, 0, 0, 4), row(129, 2, 0, 4))
	check("Unite", l, e, true)
	l, e = bound.Unite(row(256, 0, 0, 4), row(256, 1, 2, 4))
	if e != api.OK || !slices.Equal(l, []api.Span{span(0, 1023)}) {
		t.Error("what becomes one span is not too many:", len(l), e)
	}
	// Each span of the one but the first begins in a span of the other.
	l, e = bound.Cut(row(129, 0, 8, 10), row(128, 5, 8, 10))
	check("Cut", l, e, false)
	l, e = bound.Cut(row(129, 0, 8, 10), row(129, 5, 8, 10))
	check("Cut", l, e, true)
	full := row(256, 0, 0, 2)
	l, e = bound.Outside(full, span(-1, 510))
	check("Outside", l, e, false)
	l, e = bound.Outside(full, span(0, 511))
	check("Outside", l, e, false)
	l, e = bound.Outside(full, span(-1, 511))
	check("Outside", l, e, true)
}

// P1.10: the errors of lists that are not sets, those of the first one before
// those of the second one.
func TestSetErrors(t *testing.T) {
	good := []api.Span{span(0, 0)}
	for name, x := range faulty() {
		for _, do := range []func(s, t []api.Span) ([]api.Span, api.Errno){bound.Unite, bound.Cut} {
			if l, e := do(x.l, good); len(l) != 0 || e != x.e {
				t.Error(name, l, e)
			}
			if l, e := do(good, x.l); len(l) != 0 || e != x.e {
				t.Error(name, l, e)
			}
			for other, y := range faulty() {
				if l, e := do(x.l, y.l); len(l) != 0 || e != x.e {
					t.Error(name, other, l, e)
				}
			}
		}
		for _, within := range []api.Span{span(0, 9), span(2, 1)} {
			if l, e := bound.Outside(x.l, within); len(l) != 0 || e != x.e {
				t.Error(name, within, l, e)
			}
		}
	}
	for _, within := range wild() {
		if l, e := bound.Outside(good, within); !valid(within) && (len(l) != 0 || e != api.ErrArg) {
			t.Error(within, l, e)
		}
	}
}

// P1.11: Has and Count, for all sets of some numbers.
func TestHasCount(t *testing.T) {
	for m := range uint(1 << 8) {
		s := normal(m)
		if n, e := bound.Count(s); n != int64(bits.OnesCount(m)) || e != api.OK {
			t.Fatal(s, n, e)
		}
		for x := int64(-6); x <= 6; x++ {
			want := x >= -first && m>>(x+first)&1 == 1
			if ok, e := bound.Has(s, x); ok != want || e != api.OK {
				t.Fatal(s, x, ok, e)
			}
		}
	}
	all := []api.Span{span(-most, most)}
	if n, e := bound.Count(all); n != 2*most+1 || e != api.OK {
		t.Error(n, e)
	}
	if n, e := bound.Count(row(api.MaxSpans, 5, 3, 9)); n != 4*api.MaxSpans || e != api.OK {
		t.Error(n, e)
	}
	for x, want := range map[int64]bool{-most: true, most: true, -most - 1: false, most + 1: false, math.MinInt64: false, math.MaxInt64: false} {
		if ok, e := bound.Has(all, x); ok != want || e != api.OK {
			t.Error(x, ok, e)
		}
	}
	if ok, e := bound.Has(row(api.MaxSpans, 0, 0, 2), 2*api.MaxSpans-2); !ok || e != api.OK {
		t.Error(ok, e)
	}
	for name, x := range faulty() {
		if ok, e := bound.Has(x.l, 1); ok || e != x.e {
			t.Error(name, ok, e)
		}
		if n, e := bound.Count(x.l); n != 0 || e != x.e {
			t.Error(name, n, e)
		}
	}
}

// R3: an empty list is as good as none.
func TestEmptySets(t *testing.T) {
	s := []api.Span{span(1, 2), span(5, 5)}
	for _, none := range [][]api.Span{nil, {}} {
		for i, x := range []struct{ one, want []api.Span }{
			{first1(bound.Cover(none)), nil},
			{first1(bound.Unite(none, none)), nil},
			{first1(bound.Unite(none, s)), s},
			{first1(bound.Unite(s, none)), s},
			{first1(bound.Cut(none, s)), nil},
			{first1(bound.Cut(s, none)), nil},
			{first1(bound.Outside(none, span(3, 4))), []api.Span{span(3, 4)}},
		} {
			if !slices.Equal(x.one, x.want) {
				t.Error(i, x.one)
			}
		}
		if ok, e := bound.Has(none, 0); ok || e != api.OK {
			t.Error(ok, e)
		}
		if n, e := bound.Count(none); n != 0 || e != api.OK {
			t.Error(n, e)
		}
	}
}

// first1 returns a list that comes without an error.
func first1(l []api.Span, e api.Errno) []api.Span {
	if e != api.OK {
		return []api.Span{{Lo: math.MinInt64}}
	}
	return l
}

// R5: no argument is changed, not even behind its end, and no result shares
// memory with an argument or with another result.
func TestMemory(t *testing.T) {
	for i, do := range []func(s, u []api.Span) []api.Span{
		func(s, u []api.Span) []api.Span { return first1(bound.Cover(s)) },
		func(s, u []api.Span) []api.Span { return first1(bound.Unite(s, u)) },
		func(s, u []api.Span) []api.Span { return first1(bound.Unite(s, nil)) },
		func(s, u []api.Span) []api.Span { return first1(bound.Unite(nil, u)) },
		func(s, u []api.Span) []api.Span { return first1(bound.Cut(s, u)) },
		func(s, u []api.Span) []api.Span { return first1(bound.Cut(s, []api.Span{span(-most, most)})) },
		func(s, u []api.Span) []api.Span { return first1(bound.Outside(s, span(-9, 99))) },
	} {
		whole := []api.Span{span(1, 2), span(4, 6), span(9, 9), span(77, 77), span(88, 88)}
		others := []api.Span{span(0, 1), span(6, 7), span(55, 55)}
		s, u := slices.Clone(whole), slices.Clone(others)
		one, two := do(s[:3], u[:2]), do(s[:3], u[:2])
		want := slices.Clone(two)
		for k := range one[:cap(one)] {
			one[:cap(one)][k] = span(-1, -1)
		}
		if !slices.Equal(s, whole) || !slices.Equal(u, others) || !slices.Equal(two, want) {
			t.Error(i, s, u, two)
		}
	}
	unsorted := []api.Span{span(7, 8), span(1, 2), span(2, 4)}
	l := slices.Clone(unsorted)
	if bound.Cover(l); !slices.Equal(l, unsorted) {
		t.Error("Cover sorts its argument:", l)
	}
}
