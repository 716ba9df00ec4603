package field_test

import (
	"math"
	"math/rand"
	"slices"
	"testing"

	"isobath/api"
	"isobath/field"
)

// asks asks a question.
func asks(t *testing.T, name any, s sea, q []api.Part, want api.Answer, wantErr api.Errno) {
	t.Helper()
	x, e := field.Ask(s.f, s.l, q)
	same(t, []any{name, s, q}, x, e, want, wantErr)
}

// P10.6: the chapter's examples of questions.
func TestAskExamples(t *testing.T) {
	s := example()
	a := spot(1, 2)
	asks(t, "above 44", s, []api.Part{above(a, 44)}, api.Yes, api.OK)
	asks(t, "above 50", s, []api.Part{above(a, 50)}, api.Open, api.OK)
	asks(t, "not", s, []api.Part{above(a, 50), part(api.AskNot)}, api.Open, api.OK)
	asks(t, "more", s, []api.Part{more(a, spot(1, 0), 9)}, api.Yes, api.OK)
}

// P10.6: single parts, at the limits of their answers.
func TestAskSingle(t *testing.T) {
	s := example()
	a := spot(1, 2) // from 45 to 55
	b := spot(1, 0) // from 25 to 35
	for _, x := range []struct {
		p    api.Part
		want api.Answer
	}{
		{above(a, 45), api.Open},
		{above(a, 54), api.Open},
		{above(a, 55), api.No},
		{above(a, 56), api.No},
		{above(a, -most), api.Yes},
		{above(a, most), api.No},
		// The difference is from 10 to 30 by the sets, and from -20 to 20 by the distance.
		{more(a, b, 10), api.Open},
		{more(a, b, 19), api.Open},
		{more(a, b, 20), api.No},
		{more(b, a, -20), api.Open},
		{more(b, a, -21), api.Yes},
		{more(b, a, -10), api.No},
		{more(b, a, -11), api.Open},
		{more(a, a, 0), api.No},
		{more(a, a, -1), api.Yes},
		{more(a, spot(0, 2), 5), api.No},
		{more(a, spot(0, 2), 4), api.Open},
		{more(a, spot(0, 2), -6), api.Yes},
		// The content is from 70 to 90.
		{inRegion(1, []int{0, 2}, 69), api.Yes},
		{inRegion(1, []int{0, 2}, 70), api.Open},
		{inRegion(1, []int{0, 2}, 89), api.Open},
		{inRegion(1, []int{0, 2}, 90), api.No},
		{inRegion(0, []int{1}, 29), api.Yes},
	} {
		asks(t, "single", s, []api.Part{x.p}, x.want, api.OK)
		asks(t, "not", s, []api.Part{x.p, part(api.AskNot)}, 2-x.want, api.OK)
	}
}

// ofAnswer returns a part with an answer, for the field of the examples.
func ofAnswer(x api.Answer) api.Part { return above(spot(1, 2), []int64{55, 50, 44}[x]) }

// P10.6: all answers, alone and together.
func TestAskTogether(t *testing.T) {
	s := example()
	for x := api.No; x <= api.Yes; x++ {
		asks(t, "one", s, []api.Part{ofAnswer(x)}, x, api.OK)
		asks(t, "twice not", s, []api.Part{ofAnswer(x), part(api.AskNot), part(api.AskNot)}, x, api.OK)
		for y := api.No; y <= api.Yes; y++ {
			two := []api.Part{ofAnswer(x), ofAnswer(y)}
			asks(t, "all", s, append(two[:2:2], part(api.AskAll)), min(x, y), api.OK)
			asks(t, "any", s, append(two[:2:2], part(api.AskAny)), max(x, y), api.OK)
			// Only the last answer is replaced with its opposite.
			asks(t, "not all", s, append(two[:2:2], part(api.AskNot), part(api.AskAll)), min(x, 2-y), api.OK)
			// Only the last two answers are taken together.
			for z := api.No; z <= api.Yes; z++ {
				three := append([]api.Part{ofAnswer(z)}, two...)
				asks(t, "any of all", s, append(three[:3:3], part(api.AskAll), part(api.AskAny)), max(z, min(x, y)), api.OK)
				asks(t, "all of any", s, append(three[:3:3], part(api.AskAny), part(api.AskAll)), min(z, max(x, y)), api.OK)
			}
		}
	}
}

// P10.6: questions without an answer.
func TestAskNoAnswer(t *testing.T) {
	s := example()
	yes := ofAnswer(api.Yes)
	for _, q := range [][]api.Part{
		nil,
		{},
		{part(api.AskNot)},
		{part(api.AskAll)},
		{part(api.AskAny)},
		{yes, part(api.AskAll)},
		{yes, part(api.AskAny)},
		{part(api.AskNot), yes},
		{part(api.AskAll), yes},
		{yes, yes},
		{yes, yes, part(api.AskNot)},
		{yes, yes, yes, part(api.AskAll)},
		{yes, yes, part(api.AskAll), part(api.AskAll)},
		{yes, part(api.AskAny), yes},
	} {
		asks(t, "no answer", s, q, api.No, api.ErrRule)
	}
}

// P10.6: parts that are not valid.
func TestAskParts(t *testing.T) {
	s := example()
	in, out := spot(1, 2), []api.Spot{spot(2, 0), spot(-1, 0), spot(0, 3), spot(0, -1), spot(math.MinInt, math.MaxInt)}
	wrong := func(p api.Part) {
		t.Helper()
		asks(t, "wrong", s, []api.Part{p}, api.No, api.ErrArg)
		// Before the question has no answer (R1).
		asks(t, "wrong", s, []api.Part{part(api.AskAll), p}, api.No, api.ErrArg)
	}
	for _, a := range out {
		wrong(above(a, 0))
		wrong(more(a, in, 0))
		wrong(more(in, a, 0))
	}
	for _, region := range notRegions() {
		wrong(inRegion(0, region, 0))
	}
	for _, moment := range []int{-1, 2, math.MinInt, math.MaxInt} {
		wrong(inRegion(moment, []int{0}, 0))
	}
	for _, kind := range []int{0, -1, 7, math.MinInt, math.MaxInt} {
		wrong(api.Part{Kind: kind, A: in, B: in, Region: []int{0}})
	}
}

// limited returns a part of each kind, valid but for its limit.
func limited(limit int64) []api.Part {
	a := spot(1, 2)
	l := []api.Part{above(a, limit), more(a, a, limit), inRegion(1, []int{0, 2}, limit)}
	for _, kind := range []int{api.AskNot, api.AskAll, api.AskAny} {
		l = append(l, api.Part{Kind: kind, Limit: limit})
	}
	return l
}

// P10.6: the limit of a part is bounded whatever its kind.
func TestAskPartLimits(t *testing.T) {
	s := example()
	yes := ofAnswer(api.Yes)
	for _, limit := range []int64{-most - 1, most + 1, -1 << 31, 1 << 31, math.MinInt64, math.MaxInt64} {
		for _, p := range limited(limit) {
			asks(t, "without answers", s, []api.Part{p}, api.No, api.ErrArg)
			asks(t, "with one answer", s, []api.Part{yes, p}, api.No, api.ErrArg)
			asks(t, "with two answers", s, []api.Part{yes, yes, p}, api.No, api.ErrArg)
			asks(t, "before other parts", s, []api.Part{p, yes, yes, part(api.AskAll)}, api.No, api.ErrArg)
			asks(t, "not consistent", s.with(seen(1, 2, 60, 70)), []api.Part{p}, api.No, api.ErrSum)
			asks(t, "33 parts", s, slices.Repeat([]api.Part{p}, 33), api.No, api.ErrMany)
		}
	}
	for _, x := range []struct {
		limit int64
		is    api.Answer
	}{{-most, api.Yes}, {-1, api.Yes}, {most, api.No}} {
		for i, p := range limited(x.limit) {
			switch p.Kind {
			case api.AskNot:
				asks(t, i, s, []api.Part{yes, p}, api.No, api.OK)
			case api.AskAll, api.AskAny:
				asks(t, i, s, []api.Part{yes, yes, p}, api.Yes, api.OK)
			default:
				asks(t, i, s, []api.Part{p}, x.is, api.OK)
			}
		}
	}
}

// P10.6: spots and regions that do not belong to the kind of a part do not matter,
// nor does a valid limit.
func TestAskOthers(t *testing.T) {
	s := example()
	others := api.Part{A: spot(-1, 9), B: spot(7, -7), Region: []int{2, 1}, Limit: most}
	put := func(kind int) api.Part {
		p := others
		p.Kind = kind
		return p
	}
	p := put(api.AskAbove)
	p.A, p.Limit = spot(1, 2), 44
	asks(t, "above", s, []api.Part{p}, api.Yes, api.OK)
	p = put(api.AskMore)
	p.A, p.B, p.Limit = spot(1, 2), spot(1, 0), 9
	asks(t, "more", s, []api.Part{p}, api.Yes, api.OK)
	p = put(api.AskRegion)
	p.A.Moment, p.Region, p.Limit = 1, []int{0, 2}, 69
	asks(t, "region", s, []api.Part{p}, api.Yes, api.OK)
	asks(t, "not", s, []api.Part{p, put(api.AskNot)}, api.No, api.OK)
	asks(t, "all", s, []api.Part{p, p, put(api.AskAll)}, api.Yes, api.OK)
	asks(t, "any", s, []api.Part{p, p, put(api.AskAny)}, api.Yes, api.OK)
}

// P10.6: the longest questions, and those that are too long.
func TestAskLimits(t *testing.T) {
	s := example()
	// All 17 answers are put before the 15 parts that take two of them each.
	q := slices.Repeat([]api.Part{ofAnswer(api.Yes)}, 17)
	q = append(q, slices.Repeat([]api.Part{part(api.AskAll)}, 15)...)
	asks(t, "one answer too many", s, q, api.No, api.ErrRule)
	q[0] = ofAnswer(api.Open)
	asks(t, "31 parts", s, append(q[:16:16], q[17:]...), api.Open, api.OK)
	nots := append([]api.Part{ofAnswer(api.Yes)}, slices.Repeat([]api.Part{part(api.AskNot)}, 31)...)
	asks(t, "32 parts", s, nots, api.No, api.OK)
	asks(t, "33 parts", s, append(nots, part(api.AskNot)), api.No, api.ErrMany)
	asks(t, "33 parts that are not valid", s, make([]api.Part, 33), api.No, api.ErrMany)
	asks(t, "32 parts that are not valid", s, make([]api.Part, 32), api.No, api.ErrArg)
	asks(t, "not consistent", s.with(seen(1, 2, 60, 70)), make([]api.Part, 33), api.No, api.ErrSum)
	asks(t, "no field", sea{}, nots, api.No, api.ErrArg)
}

// P10.6 and P10.8: random questions, of which those with the answer Yes are true
// of values that fit, and those with No are false.
func TestTruthOfAnswers(t *testing.T) {
	r := rand.New(rand.NewSource(13))
	answers := [3]int{}
	for range 4000 {
		s, v := someSea(r)
		q := s.someQuestion(r)
		want, e := s.ask(q)
		asks(t, "random", s, q, want, e)
		answers[want]++
		if want != api.Open && s.holds(q, v) != (want == api.Yes) {
			t.Fatal(s, q, v, want)
		}
	}
	if slices.Min(answers[:]) < 300 {
		t.Error("few of one answer:", answers)
	}
}

// P10.6: random parts, mostly without an answer.
func TestAnyParts(t *testing.T) {
	r := rand.New(rand.NewSource(14))
	s := example()
	rules := 0
	for range 20000 {
		var q []api.Part
		for range r.Intn(7) {
			p := s.someSingle(r)
			p.Kind = 1 + r.Intn(6)
			q = append(q, p)
		}
		want, e := s.ask(q)
		asks(t, "random", s, q, want, e)
		if e == api.ErrRule {
			rules++
		}
	}
	if rules < 5000 || rules > 19000 {
		t.Error("without an answer:", rules)
	}
}

// P10.8 and P10.9: for tiny seas, of which all values are tried, the answer to a
// part about a spot is Open just if it is true of some and false of others, and
// other questions are true of all, or of none, as they are answered.
func TestAnswersOfAllValues(t *testing.T) {
	r := rand.New(rand.NewSource(15))
	for range 400 {
		s, _ := tiny()[r.Intn(3)].sea(r)
		all := s.values()
		for range 20 {
			q := s.someQuestion(r)
			x, e := field.Ask(s.f, s.l, q)
			some, others := false, false
			for _, v := range all {
				some, others = some || s.holds(q, v), others || !s.holds(q, v)
			}
			if e != api.OK || x == api.Yes && others || x == api.No && some {
				t.Fatal(s, q, x, e)
			}
			about := len(q) == 1 && q[0].Kind == api.AskAbove
			if about && (x == api.Open) != (some && others) {
				t.Fatal(s, q, x)
			}
		}
	}
}

// P10.10: one more observation makes no answer Yes or No different.
func TestMoreSeenAnswers(t *testing.T) {
	r := rand.New(rand.NewSource(16))
	decided := 0
	for range 4000 {
		s, v := someSea(r)
		q := s.someQuestion(r)
		before, _ := field.Ask(s.f, s.l, q)
		longer := s.with(s.someSeen(r, v, 2))
		after, e := field.Ask(longer.f, longer.l, q)
		if e != api.OK || before != api.Open && after != before {
			t.Fatal(s, q, longer.l, before, after, e)
		}
		if after != before {
			decided++
		}
	}
	if decided < 50 {
		t.Error("few questions that were decided:", decided)
	}
}
