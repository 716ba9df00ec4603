package sound_test

import (
	"math"
	"math/rand"
	"slices"
	"testing"

	"isobath/api"
	"isobath/sound"
)

// P7.7: the chapter's examples.
func TestExamplesOfAlarms(t *testing.T) {
	for k, want := range []api.Answer{no, no, yes} {
		x, e := sound.Raised(exampleGauges(), exampleRule(), k)
		same(t, k, x, e, want, api.OK)
	}
	certain, possible, e := sound.First(exampleGauges(), exampleRule())
	same(t, "First", [2]int{certain, possible}, e, [2]int{2, 2}, api.OK)
}

// one returns a gauge.
func one(l ...api.Span) api.Gauge { return api.Gauge{Level: l} }

// answersBy compares what Raised returns by all samples, and what First returns,
// with the answers that are wanted.
func answersBy(t *testing.T, name any, l []api.Gauge, r api.Rule, want ...api.Answer) {
	t.Helper()
	for k, x := range want {
		got, e := sound.Raised(l, r, k)
		same(t, name, got, e, x, api.OK)
	}
	_, e := sound.Raised(l, r, len(want))
	same(t, name, 0, e, 0, api.ErrRange)
	first := [2]int{slices.Index(want, yes), slices.IndexFunc(want, func(x api.Answer) bool { return x != no })}
	wantErr := api.OK
	if first[0] < 0 {
		first, wantErr = [2]int{}, api.ErrNone
	}
	certain, possible, e := sound.First(l, r)
	same(t, name, [2]int{certain, possible}, e, first, wantErr)
}

// P7.7: a sample is high by the amounts of all its numbers, above or below 0, and
// also of those between whole ones.
func TestHighSamples(t *testing.T) {
	for height := int64(1); height <= 4; height++ {
		for lo := int64(-6); lo <= 6; lo++ {
			for hi := lo; hi <= 6; hi++ {
				all, none := true, true
				for x := quarters * lo; x <= quarters*hi; x++ {
					amount := max(x, -x)
					all, none = all && amount >= quarters*height, none && amount < quarters*height
				}
				answersBy(t, height, []api.Gauge{one(span(lo, hi))}, api.Rule{Height: height, Run: 1, Gauges: 1}, answerOf(all, none))
			}
		}
	}
	for _, x := range []struct {
		a    api.Span
		want api.Answer
	}{
		{exactly(most), yes}, {exactly(-most), yes}, {span(-most, most), open}, {exactly(most - 1), no}, {span(1-most, most-1), no}, {span(-most, 0), open},
	} {
		answersBy(t, x, []api.Gauge{one(x.a)}, api.Rule{Height: most, Run: 1, Gauges: 1}, x.want)
	}
}

// P7.7: runs of samples, of which some are open, and which begin again.
func TestRuns(t *testing.T) {
	low, high, some := span(0, 1), span(20, 30), span(5, 25)
	under := span(-30, -20)
	for _, x := range []struct {
		run  int
		l    []api.Span
		want []api.Answer
	}{
		{1, []api.Span{low, some, high, low}, []api.Answer{no, open, yes, yes}},
		{2, []api.Span{high, low, high, high, low}, []api.Answer{no, no, no, yes, yes}},
		{2, []api.Span{high, under, low, low, low}, []api.Answer{no, yes, yes, yes, yes}},
		{2, []api.Span{some, some, low, high, some, high, high}, []api.Answer{no, open, open, open, open, open, yes}},
		{2, []api.Span{some, low, some, low, high, some}, []api.Answer{no, no, no, no, no, open}},
		{3, []api.Span{high, high, low, high, some, high, high, high}, []api.Answer{no, no, no, no, no, open, open, yes}},
		{3, []api.Span{high, high, high}, []api.Answer{no, no, yes}},
		{4, []api.Span{high, high, high}, []api.Answer{no, no, no}},
		{256, []api.Span{high, high, high}, []api.Answer{no, no, no}},
		{1, nil, nil},
		{256, nil, nil},
	} {
		answersBy(t, x, []api.Gauge{one(x.l...)}, api.Rule{Height: 20, Run: x.run, Gauges: 1}, x.want...)
	}
	answersBy(t, "no gauge has a sample", make([]api.Gauge, 16), api.Rule{Height: 20, Run: 1, Gauges: 16})
}

// P7.7: how many gauges have risen, for certain or perhaps, though not at the
// same sample.
func TestGauges(t *testing.T) {
	low, high, some := span(0, 1), span(20, 30), span(5, 25)
	l := []api.Gauge{one(low, high, low, low), one(high, low, low, low), one(low, low, some, low), one(low, low, low, high)}
	for gauges, want := range [][]api.Answer{
		1: {yes, yes, yes, yes}, 2: {no, yes, yes, yes}, 3: {no, no, open, yes}, 4: {no, no, no, open}, 5: {no, no, no, no}, 16: {no, no, no, no},
	} {
		if want != nil {
			answersBy(t, gauges, l, api.Rule{Height: 20, Run: 1, Gauges: gauges}, want...)
		}
	}
	sixteen := slices.Repeat([]api.Gauge{one(high)}, 16)
	answersBy(t, "sixteen", sixteen, api.Rule{Height: 20, Run: 1, Gauges: 16}, yes)
	sixteen[7] = one(some)
	answersBy(t, "fifteen and one", sixteen, api.Rule{Height: 20, Run: 1, Gauges: 16}, open)
	answersBy(t, "fifteen", sixteen, api.Rule{Height: 20, Run: 1, Gauges: 15}, yes)
	sixteen[7] = one(low)
	answersBy(t, "fifteen of sixteen", sixteen, api.Rule{Height: 20, Run: 1, Gauges: 16}, no)
}

// P7.7: the longest tracks and runs.
func TestLongTracks(t *testing.T) {
	high, some := span(20, 30), span(5, 25)
	for _, run := range []int{1, 2, 128, 255, 256} {
		long := slices.Repeat([]api.Span{high}, 256)
		want := slices.Repeat([]api.Answer{yes}, 256)
		for i := range run - 1 {
			want[i] = no
		}
		rule := api.Rule{Height: 20, Run: run, Gauges: 16}
		answersBy(t, run, slices.Repeat([]api.Gauge{one(long...)}, 16), rule, want...)
		long[255] = some
		want[255] = want[254]
		if run == 256 {
			want[255] = open
		}
		answersBy(t, run, slices.Repeat([]api.Gauge{one(long...)}, 16), rule, want...)
	}
}

// P7.7: samples that are not there.
func TestRaisedRange(t *testing.T) {
	for _, k := range []int{-1, 3, 4, math.MinInt, math.MaxInt} {
		x, e := sound.Raised(exampleGauges(), exampleRule(), k)
		same(t, k, x, e, no, api.ErrRange)
	}
	for _, k := range []int{-1, 0, 1} {
		x, e := sound.Raised(make([]api.Gauge, 2), exampleRule(), k)
		same(t, k, x, e, no, api.ErrRange)
	}
}

// P7.7: gauges and rules that are not as they should be.
func TestAlarmErrors(t *testing.T) {
	fails := func(name any, l []api.Gauge, r api.Rule, want api.Errno) {
		t.Helper()
		for _, k := range []int{0, 999} {
			x, e := sound.Raised(l, r, k)
			same(t, name, x, e, no, want)
		}
		certain, possible, e := sound.First(l, r)
		same(t, name, [2]int{certain, possible}, e, [2]int{}, want)
	}
	good, rule := exampleGauges(), exampleRule()
	fails("no gauges", nil, rule, api.ErrMany)
	fails("no gauges, no rule", []api.Gauge{}, api.Rule{}, api.ErrMany)
	fails("17 gauges", slices.Repeat(good[:1], 17), rule, api.ErrMany)
	fails("1000 gauges", make([]api.Gauge, 1000), rule, api.ErrMany)
	long := one(slices.Repeat([]api.Span{span(1, 2)}, 257)...)
	fails("257 samples", []api.Gauge{long}, rule, api.ErrMany)
	fails("257 samples in the last gauge", append(slices.Clone(good), long), rule, api.ErrMany)
	fails("257 samples in a gauge, not valid", []api.Gauge{one(span(2, 1)), long}, api.Rule{}, api.ErrMany)
	for at := range 3 {
		l := slices.Repeat(good[:1], 3)
		l[at] = one(good[0].Level[:2]...)
		fails("one sample less", l, rule, api.ErrEqual)
		l[at] = one()
		fails("no samples", l, rule, api.ErrEqual)
		l[at] = one(span(0, 1), span(2, 1), span(0, 1), span(0, 1))
		fails("one sample more, not valid", l, api.Rule{}, api.ErrEqual)
	}
	for _, a := range badSpans() {
		for at := range 6 {
			l := exampleGauges()
			l[at%2].Level[at/2] = a
			fails(a, l, rule, api.ErrArg)
			fails(a, l, api.Rule{}, api.ErrArg)
		}
	}
}

// P7.7: rules at and beyond their limits.
func TestRules(t *testing.T) {
	try := func(r api.Rule, want api.Errno) {
		t.Helper()
		for _, l := range [][]api.Gauge{exampleGauges(), make([]api.Gauge, 3)} {
			first := want
			if want == api.OK {
				first = api.ErrNone
			}
			if _, _, e := sound.First(l, r); e != first {
				t.Error(r, e)
			}
		}
		if _, e := sound.Raised(exampleGauges(), r, 2); e != want {
			t.Error(r, e)
		}
	}
	for _, r := range []api.Rule{
		{Height: 1, Run: 256, Gauges: 16}, {Height: most, Run: 1, Gauges: 1}, {Height: most, Run: 256, Gauges: 16}, {Height: 41, Run: 1, Gauges: 1},
	} {
		try(r, api.OK)
	}
	for _, height := range append(wildNumbers(), 0, -1, most+1) {
		try(api.Rule{Height: height, Run: 2, Gauges: 1}, api.ErrArg)
	}
	for _, run := range []int{0, -1, 257, math.MinInt, math.MaxInt} {
		try(api.Rule{Height: 20, Run: run, Gauges: 1}, api.ErrArg)
	}
	for _, gauges := range []int{0, -1, 17, math.MinInt, math.MaxInt} {
		try(api.Rule{Height: 20, Run: 2, Gauges: gauges}, api.ErrArg)
	}
}

// P7.7: Raised and First agree with the definitions.
func TestAlarmsAreDefined(t *testing.T) {
	r := rand.New(rand.NewSource(13))
	many, early := map[api.Errno]int{}, 0
	for range 8000 {
		l, rule := someGauges(r, 20)
		for k := range l[0].Level {
			x, e := sound.Raised(l, rule, k)
			same(t, l, x, e, raisedOf(l, rule, k), api.OK)
		}
		certain, possible, wantErr := firstOf(l, rule)
		i, k, e := sound.First(l, rule)
		same(t, l, [2]int{i, k}, e, [2]int{certain, possible}, wantErr)
		many[e]++
		if k < i {
			early++
		}
	}
	if many[api.OK] < 2000 || many[api.ErrNone] < 1000 || early < 500 {
		t.Error(many, early)
	}
}

// raisedBy tells whether the alarm is raised by the sample k, with true levels in
// quarters of a millimetre.
func raisedBy(levels [][]int64, r api.Rule, k int) bool {
	gauges := 0
	for _, l := range levels {
		row, risen := 0, false
		for _, x := range l[:k+1] {
			row++
			if max(x, -x) < quarters*r.Height {
				row = 0
			}
			risen = risen || row >= r.Run
		}
		if risen {
			gauges++
		}
	}
	return gauges >= r.Gauges
}

// P7.13: whatever the true levels are, by the sample that First returns first the
// alarm is raised, and before the second one it is not; and each answer of Raised
// agrees with them.
func TestTrueLevels(t *testing.T) {
	r := rand.New(rand.NewSource(14))
	for range 3000 {
		l, rule := someGauges(r, 20)
		certain, possible, e := sound.First(l, rule)
		for range 5 {
			var levels [][]int64
			for _, g := range l {
				var level []int64
				for _, a := range g.Level {
					level = append(level, someTruth(r, a))
				}
				levels = append(levels, level)
			}
			for k := range l[0].Level {
				raised := raisedBy(levels, rule, k)
				if e == api.OK && (k >= certain && !raised || k < possible && raised) {
					t.Fatal(l, rule, levels, k, certain, possible)
				}
				if x, _ := sound.Raised(l, rule, k); x == yes && !raised || x == no && raised {
					t.Fatal(l, rule, levels, k, x)
				}
			}
		}
	}
}

// extreme returns true levels of which as many as possible are high, or as few.
func extreme(l []api.Gauge, high bool) [][]int64 {
	var levels [][]int64
	for _, g := range l {
		var level []int64
		for _, a := range g.Level {
			least, greatest := int64(0), a.Hi
			if a.Lo > 0 {
				least = a.Lo
			} else if a.Hi < 0 {
				least = a.Hi
			}
			if -a.Lo > a.Hi {
				greatest = a.Lo
			}
			if high {
				least = greatest
			}
			level = append(level, quarters*least)
		}
		levels = append(levels, level)
	}
	return levels
}

// P7.13: an answer stays open only where some true levels raise the alarm and
// others do not; and Raised does not become less with a later sample.
func TestOpenAlarms(t *testing.T) {
	r := rand.New(rand.NewSource(15))
	stays := 0
	for range 3000 {
		l, rule := someGauges(r, 20)
		before := no
		for k := range l[0].Level {
			x, e := sound.Raised(l, rule, k)
			want := answerOf(raisedBy(extreme(l, false), rule, k), !raisedBy(extreme(l, true), rule, k))
			same(t, l, x, e, want, api.OK)
			if x < before {
				t.Fatal(l, rule, k, before, x)
			}
			if x == open {
				stays++
			}
			before = x
		}
	}
	if stays < 1000 {
		t.Error(stays)
	}
}

// G1, for P7.7: with narrower levels an answer stays, unless it was open; the
// alarm is certain no later, and possible no earlier.
func TestNarrowerLevels(t *testing.T) {
	r := rand.New(rand.NewSource(16))
	for range 3000 {
		l, rule := someGauges(r, 20)
		var less []api.Gauge
		for _, g := range l {
			less = append(less, one(each(g.Level, func(a api.Span) api.Span { return narrower(r, a) })...))
		}
		for k := range l[0].Level {
			wide, _ := sound.Raised(l, rule, k)
			if narrow, _ := sound.Raised(less, rule, k); wide != open && narrow != wide {
				t.Fatal(l, less, rule, k, wide, narrow)
			}
		}
		certain, possible, e := sound.First(l, rule)
		i, k, f := sound.First(less, rule)
		if e == api.OK && (f != api.OK || i > certain || k < possible) {
			t.Fatal(l, less, rule, i, k, certain, possible)
		}
	}
}
