package sound_test

import (
	"math"
	"math/rand"
	"slices"
	"testing"

	"isobath/api"
	"isobath/sound"
)

const (
	no   = api.No
	open = api.Open
	yes  = api.Yes
)

// P7.1 and P7.2: the chapter's examples.
func TestExamplesOfCalls(t *testing.T) {
	loud, e := sound.Loud([]api.Span{span(1, 2), span(2, 5), span(5, 9)}, 4)
	equal(t, "Loud", loud, e, []api.Answer{no, open, yes}, api.OK)
	l := []api.Answer{yes, open, yes, no, open}
	for n, want := range map[int]api.Span{1: span(1, 3), 2: span(0, 1)} {
		c, e := sound.Count(l, n)
		same(t, n, c, e, want, api.OK)
	}
	choice, e := sound.Most(l, 1)
	equal(t, "Most", choice, e, []bool{true, false, true, false, true}, api.OK)
}

// P7.1: the loudness of a sample is that of all its numbers, also those between
// whole ones.
func TestLoud(t *testing.T) {
	for h := int64(-4); h <= 4; h++ {
		for lo := int64(-5); lo <= 5; lo++ {
			for hi := lo; hi <= 5; hi++ {
				all, none := true, true
				for x := quarters * lo; x <= quarters*hi; x++ {
					all, none = all && x >= quarters*h, none && x < quarters*h
				}
				l, e := sound.Loud([]api.Span{span(lo, hi)}, h)
				equal(t, h, l, e, []api.Answer{answerOf(all, none)}, api.OK)
			}
		}
	}
	for _, x := range []struct {
		a    api.Span
		h    int64
		want api.Answer
	}{
		{exactly(most), most, yes}, {exactly(most - 1), most, no}, {span(-most, most), most, open}, {span(-most, most-1), most, no},
		{exactly(-most), -most, yes}, {span(-most, most), -most, yes}, {span(-most, most), 1 - most, open}, {exactly(-most), 1 - most, no},
	} {
		l, e := sound.Loud([]api.Span{x.a}, x.h)
		equal(t, x, l, e, []api.Answer{x.want}, api.OK)
	}
}

// P7.1: how many samples a track has, what is not valid in one, and what is no
// threshold.
func TestLoudErrors(t *testing.T) {
	for _, n := range []int{0, 1, 255, 256} {
		l, e := sound.Loud(slices.Repeat([]api.Span{span(3, 5)}, n), 4)
		equal(t, n, l, e, slices.Repeat([]api.Answer{open}, n), api.OK)
	}
	for _, n := range []int{257, 258, 1000} {
		l, e := sound.Loud(slices.Repeat([]api.Span{span(5, 3)}, n), most+1)
		equal(t, n, l, e, nil, api.ErrMany)
		l, e = sound.Loud(slices.Repeat([]api.Span{span(3, 5)}, n), 4)
		equal(t, n, l, e, nil, api.ErrMany)
	}
	for _, a := range badSpans() {
		for at := range 3 {
			track := []api.Span{span(1, 2), span(2, 3), span(3, 4)}
			track[at] = a
			for _, h := range []int64{2, most + 1} {
				l, e := sound.Loud(track, h)
				equal(t, a, l, e, nil, api.ErrArg)
			}
		}
	}
	for _, h := range append(wildNumbers(), most+1, -most-1) {
		for _, track := range [][]api.Span{nil, {span(1, 2)}} {
			l, e := sound.Loud(track, h)
			equal(t, h, l, e, nil, api.ErrRange)
		}
	}
}

// choices returns all choices of up to n elements.
func choices(n int) [][]bool {
	all, last := [][]bool{nil}, [][]bool{nil}
	for range n {
		var next [][]bool
		for _, c := range last {
			next = append(next, append(slices.Clone(c), false), append(slices.Clone(c), true))
		}
		all, last = append(all, next...), next
	}
	return all
}

// P7.1: the calls of choices, by hand.
func TestCalls(t *testing.T) {
	on := func(text string) []bool {
		var l []bool
		for _, r := range text {
			l = append(l, r == '1')
		}
		return l
	}
	for _, x := range []struct {
		choice string
		n      int
		want   int
	}{
		{"", 1, 0}, {"", 256, 0}, {"0", 1, 0}, {"1", 1, 1}, {"1", 2, 0}, {"11", 1, 1}, {"11", 2, 1}, {"11", 3, 0},
		{"101", 1, 2}, {"101", 2, 0}, {"1111", 2, 1}, {"1101011101", 1, 4}, {"1101011101", 2, 2}, {"1101011101", 3, 1},
		{"1101011101", 4, 0}, {"0110011", 2, 2}, {"0110", 2, 1}, {"111111", 3, 1}, {"1110111", 3, 2},
	} {
		calls, e := sound.Calls(on(x.choice), x.n)
		same(t, x, calls, e, x.want, api.OK)
	}
	long := slices.Repeat([]bool{true}, 256)
	for _, n := range []int{1, 2, 255, 256} {
		calls, e := sound.Calls(long, n)
		same(t, n, calls, e, 1, api.OK)
	}
	for i := 1; i < 256; i += 2 {
		long[i] = false
	}
	calls, e := sound.Calls(long, 1)
	same(t, "every other one", calls, e, 128, api.OK)
}

// P7.1: Calls agrees with the definition.
func TestCallsAreDefined(t *testing.T) {
	for _, c := range choices(10) {
		for n := 1; n <= 11; n++ {
			calls, e := sound.Calls(c, n)
			same(t, c, calls, e, callsOf(c, n), api.OK)
		}
	}
}

// wrongLengths returns numbers that are no least length.
func wrongLengths() []int { return []int{0, -1, 257, 258, math.MinInt, math.MaxInt} }

// P7.1: choices that are too long, and what is no least length.
func TestCallsErrors(t *testing.T) {
	for _, n := range append(wrongLengths(), 1, 256) {
		for _, many := range []int{257, 1000} {
			calls, e := sound.Calls(slices.Repeat([]bool{true}, many), n)
			same(t, many, calls, e, 0, api.ErrMany)
		}
	}
	for _, n := range wrongLengths() {
		for _, many := range []int{0, 1, 256} {
			calls, e := sound.Calls(slices.Repeat([]bool{true}, many), n)
			same(t, n, calls, e, 0, api.ErrRange)
		}
	}
}

// counted compares the count of a list with what is wanted, and its choices
// with both ends.
func counted(t *testing.T, l []api.Answer, n int, want api.Span) {
	t.Helper()
	c, e := sound.Count(l, n)
	same(t, l, c, e, want, api.OK)
	few, e := sound.Fewest(l, n)
	if e != api.OK || !fits(few, l) || int64(callsOf(few, n)) != want.Lo {
		t.Fatal(l, n, few, e)
	}
	many, e := sound.Most(l, n)
	if e != api.OK || !fits(many, l) || int64(callsOf(many, n)) != want.Hi {
		t.Fatal(l, n, many, e)
	}
	for choice, want := range map[*[]bool]int64{&few: want.Lo, &many: want.Hi} {
		if calls, e := sound.Calls(*choice, n); int64(calls) != want || e != api.OK {
			t.Fatal(l, n, *choice, calls, e)
		}
	}
}

// answerLists returns all lists of up to n answers.
func answerLists(n int) [][]api.Answer {
	all, last := [][]api.Answer{nil}, [][]api.Answer{nil}
	for range n {
		var next [][]api.Answer
		for _, l := range last {
			for x := no; x <= yes; x++ {
				next = append(next, append(slices.Clone(l), x))
			}
		}
		all, last = append(all, next...), next
	}
	return all
}

// P7.2 and P7.9: the count is that of all choices that fit, for all short lists.
func TestCountOfShortLists(t *testing.T) {
	for _, l := range answerLists(6) {
		for n := 1; n <= 7; n++ {
			want := countOf(l, n)
			counted(t, l, n, want)
			if many := countOfMany(l, n); many != want {
				t.Fatal("the tests do not agree", l, n, many, want)
			}
		}
		counted(t, l, 256, span(0, 0))
	}
}

// someAnswers returns a list of answers, of which more are as the first ones of
// the kinds.
func someAnswers(r *rand.Rand, many int) []api.Answer {
	kinds := [][]api.Answer{
		{no, open, yes}, {open, open, open, no, yes}, {yes, yes, yes, yes, open, no}, {yes, open}, {no, open}, {open},
	}[r.Intn(6)]
	var l []api.Answer
	for range many {
		l = append(l, kinds[r.Intn(len(kinds))])
	}
	return l
}

// P7.2 and P7.9: the same for lists by chance, of some and of many answers.
func TestCountOfLongLists(t *testing.T) {
	r := rand.New(rand.NewSource(1))
	for range 300 {
		l := someAnswers(r, 7+r.Intn(7))
		n := 1 + r.Intn(5)
		counted(t, l, n, countOf(l, n))
	}
	for range 150 {
		l := someAnswers(r, 256-r.Intn(2)*r.Intn(257))
		n := 1 + r.Intn([]int{1, 6, 30, 256}[r.Intn(4)])
		counted(t, l, n, countOfMany(l, n))
	}
}

// P7.2: lists that are all the same, at the limits.
func TestCountOfSame(t *testing.T) {
	for _, many := range []int{0, 1, 2, 255, 256} {
		for _, n := range []int{1, 2, 3, 127, 128, 255, 256} {
			counted(t, slices.Repeat([]api.Answer{no}, many), n, span(0, 0))
			one := int64(0)
			if many >= n {
				one = 1
			}
			counted(t, slices.Repeat([]api.Answer{yes}, many), n, span(one, one))
			// One that is false is between two calls.
			counted(t, slices.Repeat([]api.Answer{open}, many), n, span(0, int64((many+1)/(n+1))))
		}
	}
}

// P7.2: an element that is open may join two calls, divide one, or end one; the
// fewest calls need not be where as few as possible are true.
func TestCountOfTurns(t *testing.T) {
	for _, x := range []struct {
		l    []api.Answer
		n    int
		want api.Span
	}{
		{[]api.Answer{yes, open, yes}, 1, span(1, 2)},
		{[]api.Answer{yes, open, yes}, 2, span(0, 1)},
		{[]api.Answer{yes, open, yes}, 3, span(0, 1)},
		{[]api.Answer{yes, yes, open, yes, yes}, 2, span(1, 2)},
		{[]api.Answer{yes, yes, open, yes, yes}, 3, span(0, 1)},
		{[]api.Answer{yes, no, yes}, 1, span(2, 2)},
		{[]api.Answer{open, yes, open}, 1, span(1, 1)},
		{[]api.Answer{open, yes, open}, 2, span(0, 1)},
		{[]api.Answer{yes, open, yes, open, yes}, 1, span(1, 3)},
		{[]api.Answer{yes, open, yes, yes, open, yes}, 2, span(1, 1)},
		{[]api.Answer{yes, open, yes, open, open, yes}, 2, span(0, 2)},
		{[]api.Answer{yes, open, open, yes, no, open}, 2, span(0, 1)},
		{[]api.Answer{open, open, open, open, open}, 2, span(0, 2)},
	} {
		counted(t, x.l, x.n, x.want)
	}
}

// P7.2: the errors of answers and a least length.
func TestCountErrors(t *testing.T) {
	fails := func(l []api.Answer, n int, want api.Errno) {
		t.Helper()
		c, e := sound.Count(l, n)
		same(t, n, c, e, api.Span{}, want)
		choice, e := sound.Fewest(l, n)
		equal(t, n, choice, e, nil, want)
		choice, e = sound.Most(l, n)
		equal(t, n, choice, e, nil, want)
	}
	for _, n := range append(wrongLengths(), 1, 256) {
		fails(slices.Repeat([]api.Answer{open}, 257), n, api.ErrMany)
		fails(slices.Repeat([]api.Answer{3}, 257), n, api.ErrMany)
		fails(slices.Repeat([]api.Answer{yes}, 1000), n, api.ErrMany)
		for _, x := range []api.Answer{-1, 3, math.MinInt, math.MaxInt} {
			fails([]api.Answer{x}, n, api.ErrArg)
			fails([]api.Answer{no, open, x}, n, api.ErrArg)
			fails(append(slices.Repeat([]api.Answer{yes}, 255), x), n, api.ErrArg)
		}
	}
	for _, n := range wrongLengths() {
		fails(nil, n, api.ErrRange)
		fails([]api.Answer{yes, open}, n, api.ErrRange)
		fails(slices.Repeat([]api.Answer{open}, 256), n, api.ErrRange)
	}
}

// G1, for P7.1 and P7.9: with narrower samples an answer stays, unless it was
// open, and the count does not become wider.
func TestNarrowerTracks(t *testing.T) {
	r := rand.New(rand.NewSource(2))
	for range 2000 {
		var track []api.Span
		for range r.Intn(20) {
			track = append(track, someSpan(r, r.Int63n(20), 8))
		}
		less := each(track, func(a api.Span) api.Span { return narrower(r, a) })
		h, n := r.Int63n(20), 1+r.Intn(4)
		wide, _ := sound.Loud(track, h)
		narrow, _ := sound.Loud(less, h)
		for i := range wide {
			if wide[i] != open && narrow[i] != wide[i] {
				t.Fatal(track, less, h, wide, narrow)
			}
		}
		c, _ := sound.Count(wide, n)
		if d, _ := sound.Count(narrow, n); !contains(c, d) {
			t.Fatal(wide, narrow, n, c, d)
		}
	}
}

// P7.9: whatever the true loudness is, its calls lie in the count.
func TestTrueCallsAreCounted(t *testing.T) {
	r := rand.New(rand.NewSource(3))
	for range 3000 {
		var track []api.Span
		for range r.Intn(60) {
			track = append(track, someSpan(r, r.Int63n(20), 5))
		}
		h, n := r.Int63n(20), 1+r.Intn(4)
		loud, _ := sound.Loud(track, h)
		c, e := sound.Count(loud, n)
		if e != api.OK {
			t.Fatal(loud, n, e)
		}
		for range 10 {
			var choice []bool
			for _, a := range track {
				choice = append(choice, someTruth(r, a) >= quarters*h)
			}
			if calls := int64(callsOf(choice, n)); calls < c.Lo || calls > c.Hi || !fits(choice, loud) {
				t.Fatal(track, h, n, choice, c)
			}
		}
	}
}
