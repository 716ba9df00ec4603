package bound_test

import (
	"math"
	"slices"
	"testing"

	"isobath/api"
	"isobath/bound"
)

// told returns the answer to a question that is true of some and not of others.
func told(some, others bool) api.Answer {
	switch {
	case some && others:
		return api.Open
	case some:
		return api.Yes
	}
	return api.No
}

// The chapter's examples of answers.
func TestExamplesOfAnswers(t *testing.T) {
	for _, x := range []struct {
		ask  func(a, b api.Span) (api.Answer, api.Errno)
		a, b api.Span
		want api.Answer
	}{
		{bound.Less, span(1, 3), span(3, 5), api.Open},
		{bound.Less, span(1, 2), span(3, 5), api.Yes},
		{bound.Less, span(5, 6), span(3, 5), api.No},
		{bound.In, span(1, 3), span(0, 3), api.Yes},
		{bound.In, span(1, 3), span(3, 9), api.Open},
		{bound.In, span(1, 2), span(3, 9), api.No},
	} {
		if y, e := x.ask(x.a, x.b); y != x.want || e != api.OK {
			t.Error(x.a, x.b, y, e)
		}
	}
}

// P1.7 and P1.16: Less tells whether all, none or some pairs are less.
func TestLess(t *testing.T) {
	for _, a := range validSpans(-4, 4) {
		for _, b := range validSpans(-4, 4) {
			less, other := false, false
			for x := a.Lo; x <= a.Hi; x++ {
				for y := b.Lo; y <= b.Hi; y++ {
					less, other = less || x < y, other || x >= y
				}
			}
			if x, e := bound.Less(a, b); x != told(less, other) || e != api.OK {
				t.Fatal(a, b, x, e)
			}
		}
	}
}

// P1.7 and P1.16: In tells whether all, none or some numbers are in b.
func TestIn(t *testing.T) {
	for _, a := range validSpans(-4, 4) {
		for _, b := range validSpans(-4, 4) {
			in, out := false, false
			for x := a.Lo; x <= a.Hi; x++ {
				in, out = in || b.Lo <= x && x <= b.Hi, out || x < b.Lo || x > b.Hi
			}
			if x, e := bound.In(a, b); x != told(in, out) || e != api.OK {
				t.Fatal(a, b, x, e)
			}
		}
	}
}

// P1.7: spans at and beyond the limits.
func TestLessInWild(t *testing.T) {
	for _, a := range wild() {
		for _, b := range wild() {
			x, e := bound.Less(a, b)
			y, f := bound.In(a, b)
			if !valid(a) || !valid(b) {
				if x != api.No || e != api.ErrArg || y != api.No || f != api.ErrArg {
					t.Fatal(a, b, x, e, y, f)
				}
				continue
			}
			apart := a.Hi < b.Lo || b.Hi < a.Lo
			if x != told(a.Lo < b.Hi, a.Hi >= b.Lo) || e != api.OK || y != told(!apart, !contains(b, a)) || f != api.OK {
				t.Fatal(a, b, x, e, y, f)
			}
		}
	}
}

// answerLists returns all lists of up to n answers.
func answerLists(n int) [][]api.Answer {
	all := [][]api.Answer{nil}
	last := all
	for range n {
		var next [][]api.Answer
		for _, l := range last {
			for x := api.No; x <= api.Yes; x++ {
				next = append(next, append(slices.Clone(l), x))
			}
		}
		all, last = append(all, next...), next
	}
	return all
}

// decided returns all lists in which each Open is replaced with No or Yes.
func decided(l []api.Answer) [][]api.Answer {
	i := slices.Index(l, api.Open)
	if i < 0 {
		return [][]api.Answer{l}
	}
	no, yes := slices.Clone(l), slices.Clone(l)
	no[i], yes[i] = api.No, api.Yes
	return append(decided(no), decided(yes)...)
}

// P1.8 and P1.16: All and Any agree with all ways to replace Open.
func TestAllAny(t *testing.T) {
	for _, l := range answerLists(5) {
		all, notAll, some, none := false, false, false, false
		for _, d := range decided(l) {
			every, one := !slices.Contains(d, api.No), slices.Contains(d, api.Yes)
			all, notAll = all || every, notAll || !every
			some, none = some || one, none || !one
		}
		if x, e := bound.All(l); x != told(all, notAll) || e != api.OK {
			t.Fatal(l, x, e)
		}
		if x, e := bound.Any(l); x != told(some, none) || e != api.OK {
			t.Fatal(l, x, e)
		}
	}
}

// P1.8: lists at and above the limit, and what is not an answer.
func TestAllAnyErrors(t *testing.T) {
	both := func(l []api.Answer, all, any api.Answer, want api.Errno) {
		t.Helper()
		if x, e := bound.All(l); x != all || e != want {
			t.Error(len(l), x, e)
		}
		if x, e := bound.Any(l); x != any || e != want {
			t.Error(len(l), x, e)
		}
	}
	both([]api.Answer{}, api.Yes, api.No, api.OK)
	yes := slices.Repeat([]api.Answer{api.Yes}, api.MaxList+1)
	both(yes[:api.MaxList], api.Yes, api.Yes, api.OK)
	both(yes, api.No, api.No, api.ErrMany)
	last := slices.Clone(yes[:api.MaxList])
	last[api.MaxList-1] = api.No
	both(last, api.No, api.Yes, api.OK)
	for _, x := range []api.Answer{-1, 3, math.MinInt, math.MaxInt} {
		both([]api.Answer{x}, api.No, api.No, api.ErrArg)
		both([]api.Answer{api.Yes, api.No, x}, api.No, api.No, api.ErrArg)
		// The list is too long before its answers are looked at (R1).
		both(append([]api.Answer{x}, yes[:api.MaxList]...), api.No, api.No, api.ErrMany)
	}
}

// P1.8 and P1.16: Not, for the three answers and for others (R7).
func TestNot(t *testing.T) {
	for x, want := range map[api.Answer]api.Answer{api.No: api.Yes, api.Open: api.Open, api.Yes: api.No} {
		if y, e := bound.Not(x); y != want || e != api.OK {
			t.Error(x, y, e)
		}
	}
	for _, x := range []api.Answer{-1, 3, math.MinInt, math.MaxInt} {
		if y, e := bound.Not(x); y != api.No || e != api.ErrArg {
			t.Error(x, y, e)
		}
	}
}

// R5: the answers that are given stay as they are.
func TestAnswersUnchanged(t *testing.T) {
	l := []api.Answer{api.Yes, api.No, api.Open}
	bound.All(l)
	bound.Any(l)
	if !slices.Equal(l, []api.Answer{api.Yes, api.No, api.Open}) {
		t.Error(l)
	}
}
