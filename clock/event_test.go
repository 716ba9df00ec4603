package clock_test

import (
	"math"
	"math/rand"
	"slices"
	"testing"

	"isobath/api"
	"isobath/clock"
)

// P5.6: the chapter's examples.
func TestExamplesOfEvents(t *testing.T) {
	if x, e := clock.Before(span(1, 3), span(3, 5)); x != api.Open || e != api.OK {
		t.Error(x, e)
	}
	if x, e := clock.Before(span(1, 3), span(4, 5)); x != api.Yes || e != api.OK {
		t.Error(x, e)
	}
	l, e := clock.Ranks([]api.Span{span(1, 3), span(2, 4), span(5, 6)})
	if !slices.Equal(l, [][2]int{{0, 1}, {0, 1}, {2, 2}}) || e != api.OK {
		t.Error(l, e)
	}
}

// extremes are the ends of spans that are time spans, and not valid ones of
// package bound.
func extremes() []int64 {
	return []int64{math.MinInt64, math.MinInt64 + 1, -1 << 50, -1, 0, 1, 1 << 30, 1<<30 + 1, 1 << 50, 1<<50 + 1, math.MaxInt64 - 1, math.MaxInt64}
}

// timeSpans returns all spans with these ends.
func timeSpans(ends []int64) []api.Span {
	var l []api.Span
	for i, lo := range ends {
		for _, hi := range ends[i:] {
			l = append(l, span(lo, hi))
		}
	}
	return l
}

// reversed returns spans with these ends, which are no time spans.
func reversed(ends []int64) []api.Span {
	var l []api.Span
	for i, lo := range ends {
		for _, hi := range ends[:i] {
			l = append(l, span(lo, hi))
		}
	}
	return l
}

// answerOf returns the answer by the definition.
func answerOf(a, b api.Span) api.Answer {
	if a.Hi < b.Lo {
		return api.Yes
	}
	if a.Lo >= b.Hi {
		return api.No
	}
	return api.Open
}

// P5.6: Before by its definition, for time spans of any size; what is no time
// span.
func TestBefore(t *testing.T) {
	for _, a := range timeSpans(extremes()) {
		for _, b := range timeSpans(extremes()) {
			if x, e := clock.Before(a, b); x != answerOf(a, b) || e != api.OK {
				t.Fatal(a, b, x, e)
			}
		}
		for _, b := range reversed(extremes()) {
			if x, e := clock.Before(a, b); x != api.No || e != api.ErrArg {
				t.Fatal(a, b, x, e)
			}
			if x, e := clock.Before(b, a); x != api.No || e != api.ErrArg {
				t.Fatal(b, a, x, e)
			}
			if x, e := clock.Before(b, b); x != api.No || e != api.ErrArg {
				t.Fatal(b, b, x, e)
			}
		}
	}
}

// P5.6: answers of spans that are near each other.
func TestBeforeNear(t *testing.T) {
	for _, x := range []struct {
		a, b api.Span
		want api.Answer
	}{
		{span(1, 2), span(3, 4), api.Yes},
		{span(3, 4), span(1, 2), api.No},
		{span(1, 3), span(3, 3), api.Open},
		{span(3, 3), span(3, 3), api.No},
		{span(3, 3), span(1, 3), api.No},
		{span(3, 5), span(1, 3), api.No},
		{span(3, 5), span(1, 4), api.Open},
		{span(1, 5), span(2, 3), api.Open},
		{span(2, 3), span(1, 5), api.Open},
		{span(1, 5), span(1, 5), api.Open},
		{span(2, 2), span(2, 3), api.Open},
	} {
		if got, e := clock.Before(x.a, x.b); got != x.want || e != api.OK {
			t.Error(x.a, x.b, got, e)
		}
	}
}

// ranksOf returns the ranks by the definition.
func ranksOf(l []api.Span) [][2]int {
	var ranks [][2]int
	for i, a := range l {
		first, last := 0, len(l)-1
		for k, b := range l {
			if i != k && answerOf(b, a) == api.Yes {
				first++
			}
			if i != k && answerOf(a, b) == api.Yes {
				last--
			}
		}
		ranks = append(ranks, [2]int{first, last})
	}
	return ranks
}

// commonOf returns the common part by the definition.
func commonOf(l []api.Span) (api.Span, api.Errno) {
	if len(l) == 0 {
		return api.Span{}, api.ErrNone
	}
	lo, hi := int64(math.MinInt64), int64(math.MaxInt64)
	for _, a := range l {
		lo, hi = max(lo, a.Lo), min(hi, a.Hi)
	}
	if lo > hi {
		return api.Span{}, api.ErrNone
	}
	return span(lo, hi), api.OK
}

// bothOf compares what Ranks and Common return with what is wanted.
func bothOf(t *testing.T, l []api.Span, ranks [][2]int, common api.Span, rankErr, commonErr api.Errno) {
	t.Helper()
	if got, e := clock.Ranks(l); !slices.Equal(got, ranks) || e != rankErr {
		t.Errorf("Ranks of %v: %v, %v; want %v, %v", l, got, e, ranks, rankErr)
	}
	if got, e := clock.Common(l); got != common || e != commonErr {
		t.Errorf("Common of %v: %v, %v; want %v, %v", l, got, e, common, commonErr)
	}
}

// P5.6: ranks and common parts of a few events.
func TestRanksAndCommon(t *testing.T) {
	for _, x := range []struct {
		l      []api.Span
		ranks  [][2]int
		common api.Span
		e      api.Errno
	}{
		{nil, nil, api.Span{}, api.ErrNone},
		{[]api.Span{}, nil, api.Span{}, api.ErrNone},
		{[]api.Span{span(1, 3)}, [][2]int{{0, 0}}, span(1, 3), api.OK},
		{[]api.Span{span(0, 0)}, [][2]int{{0, 0}}, span(0, 0), api.OK},
		{[]api.Span{span(5, 6), span(1, 3)}, [][2]int{{1, 1}, {0, 0}}, api.Span{}, api.ErrNone},
		{[]api.Span{span(5, 6), span(1, 5)}, [][2]int{{0, 1}, {0, 1}}, span(5, 5), api.OK},
		{[]api.Span{span(5, 6), span(1, 4)}, [][2]int{{1, 1}, {0, 0}}, api.Span{}, api.ErrNone},
		{[]api.Span{span(3, 3), span(3, 3), span(3, 3)}, [][2]int{{0, 2}, {0, 2}, {0, 2}}, span(3, 3), api.OK},
		{[]api.Span{span(1, 9), span(2, 3), span(4, 8)}, [][2]int{{0, 2}, {0, 1}, {1, 2}}, api.Span{}, api.ErrNone},
		{[]api.Span{span(1, 9), span(2, 7), span(4, 8)}, [][2]int{{0, 2}, {0, 2}, {0, 2}}, span(4, 7), api.OK},
		{[]api.Span{span(-9, -5), span(math.MinInt64, -5), span(-7, math.MaxInt64)}, [][2]int{{0, 2}, {0, 2}, {0, 2}}, span(-7, -5), api.OK},
		{[]api.Span{exactly(math.MaxInt64), exactly(math.MinInt64)}, [][2]int{{1, 1}, {0, 0}}, api.Span{}, api.ErrNone},
		{[]api.Span{span(math.MinInt64, math.MaxInt64)}, [][2]int{{0, 0}}, span(math.MinInt64, math.MaxInt64), api.OK},
		{[]api.Span{exactly(4), exactly(3), exactly(2), exactly(1)}, [][2]int{{3, 3}, {2, 2}, {1, 1}, {0, 0}}, api.Span{}, api.ErrNone},
	} {
		bothOf(t, x.l, x.ranks, x.common, api.OK, x.e)
	}
}

// P5.6: how many spans there are, and what is no time span.
func TestRanksAndCommonErrors(t *testing.T) {
	for _, n := range []int{127, 128} {
		l := slices.Repeat([]api.Span{span(1, 3)}, n)
		bothOf(t, l, slices.Repeat([][2]int{{0, n - 1}}, n), span(1, 3), api.OK, api.OK)
		for _, at := range []int{0, n / 2, n - 1} {
			bad := slices.Clone(l)
			bad[at] = span(3, 2)
			bothOf(t, bad, nil, api.Span{}, api.ErrArg, api.ErrArg)
		}
	}
	bothOf(t, slices.Repeat([]api.Span{span(1, 3)}, 129), nil, api.Span{}, api.ErrMany, api.ErrMany)
	bothOf(t, slices.Repeat([]api.Span{span(3, 1)}, 129), nil, api.Span{}, api.ErrMany, api.ErrMany)
	bothOf(t, slices.Repeat([]api.Span{span(1, 3)}, 1000), nil, api.Span{}, api.ErrMany, api.ErrMany)
	for _, a := range reversed(extremes()) {
		bothOf(t, []api.Span{a}, nil, api.Span{}, api.ErrArg, api.ErrArg)
		bothOf(t, []api.Span{span(1, 3), a}, nil, api.Span{}, api.ErrArg, api.ErrArg)
		// What is no time span is an error also behind spans without a common part.
		bothOf(t, []api.Span{span(1, 3), span(5, 6), a}, nil, api.Span{}, api.ErrArg, api.ErrArg)
	}
}

// P5.6: Ranks and Common agree with the definitions.
func TestEventsAreDefined(t *testing.T) {
	r := rand.New(rand.NewSource(7))
	for range 3000 {
		var l []api.Span
		wide := 1 + r.Int63n(30)
		for range r.Intn(12) {
			lo := r.Int63n(20) - 10
			l = append(l, span(lo, lo+r.Int63n(wide)))
		}
		common, e := commonOf(l)
		bothOf(t, l, ranksOf(l), common, api.OK, e)
	}
}

// assignments calls a function with all ways in which events can be in their
// spans at whole numbers.
func assignments(l []api.Span, times []int64, try func(times []int64)) {
	if len(times) == len(l) {
		try(times)
		return
	}
	a := l[len(times)]
	for x := a.Lo; x <= a.Hi; x++ {
		assignments(l, append(times, x), try)
	}
}

// P5.13: Before agrees with all times in both spans, and Open stays only where
// they do not agree.
func TestBeforeAgrees(t *testing.T) {
	for _, a := range timeSpans([]int64{0, 1, 2, 3, 4}) {
		for _, b := range timeSpans([]int64{0, 1, 2, 3, 4}) {
			var some, all = false, true
			assignments([]api.Span{a, b}, nil, func(times []int64) {
				some, all = some || times[0] < times[1], all && times[0] < times[1]
			})
			want := api.Open
			if all {
				want = api.Yes
			} else if !some {
				want = api.No
			}
			if x, e := clock.Before(a, b); x != want || e != api.OK {
				t.Error(a, b, x, e)
			}
		}
	}
}

// P5.13: whatever the times are, if all are different, each event has a rank
// from its first to its last one.
func TestRanksAgree(t *testing.T) {
	r := rand.New(rand.NewSource(8))
	for range 400 {
		var l []api.Span
		for range 1 + r.Intn(5) {
			lo := r.Int63n(8)
			l = append(l, span(lo, lo+r.Int63n(5)))
		}
		ranks, e := clock.Ranks(l)
		if e != api.OK {
			t.Fatal(l, e)
		}
		assignments(l, nil, func(times []int64) {
			sorted := slices.Sorted(slices.Values(times))
			if len(slices.Compact(slices.Clone(sorted))) < len(times) {
				return
			}
			for i, x := range times {
				if rank := slices.Index(sorted, x); rank < ranks[i][0] || rank > ranks[i][1] {
					t.Fatal(l, times, i, rank, ranks)
				}
			}
		})
	}
}
