package field_test

import (
	"math/rand"
	"slices"
	"testing"

	"isobath/api"
	"isobath/field"
)

// ends returns all Lo and all Hi of spans.
func ends(l []api.Span) ([]int64, []int64) {
	var lo, hi []int64
	for _, s := range l {
		lo, hi = append(lo, s.Lo), append(hi, s.Hi)
	}
	return lo, hi
}

// P10.4: the chapter's example, and others of its field.
func TestSets(t *testing.T) {
	s := example()
	sets := func(name string, want []api.Span, l ...api.Seen) {
		t.Helper()
		got, e := field.Sets(s.f, l)
		equal(t, name, got, e, want, api.OK)
	}
	sets("example", []api.Span{span(20, 30), span(30, 40), span(40, 50), span(25, 35), span(35, 45), span(45, 55)}, s.l...)
	sets("nothing is seen", slices.Repeat([]api.Span{span(0, 100)}, 6))
	sets("one value", []api.Span{span(50, 70), span(60, 60), span(50, 70), span(45, 75), span(55, 65), span(45, 75)}, seen(0, 1, 60, 60))
	sets("near the edge of Range", []api.Span{span(0, 5), span(0, 15), span(0, 25), span(0, 10), span(0, 20), span(0, 30)}, seen(0, 0, -most, 5))
	sets("twice", []api.Span{span(5, 8), span(0, 18), span(0, 28), span(0, 13), span(0, 23), span(0, 33)}, seen(0, 0, 0, 8), seen(0, 0, 5, 9))
	l, e := field.Sets(s.f, []api.Seen{s.l[0], seen(1, 2, 60, 70)})
	equal(t, "not consistent", l, e, nil, api.ErrSum)
	l, e = field.Sets(s.f, []api.Seen{seen(0, 0, 101, 101)})
	equal(t, "outside of Range", l, e, nil, api.ErrSum)
	l, e = field.Sets(api.Field{}, nil)
	equal(t, "no field", l, e, nil, api.ErrArg)
}

// P10.4: of several observations that bound a spot the nearest one need not be
// the one that decides.
func TestSetsOfSeveral(t *testing.T) {
	f := api.Field{Wide: 3, High: 3, Last: 0, Range: span(0, 1000), Space: 10}
	l, e := field.Sets(f, []api.Seen{seen(0, 0, 0, 400), seen(0, 8, 390, 395), seen(0, 6, 380, 1000)})
	// The cells of a row differ by at most 10, and so do the rows.
	want := []api.Span{
		span(360, 400), span(360, 410), span(370, 415),
		span(370, 410), span(370, 415), span(380, 405),
		span(380, 415), span(380, 405), span(390, 395),
	}
	equal(t, "by hand", l, e, want, api.OK)
}

// P10.4: the greatest field, with all numbers at their limits.
func TestSetsLimits(t *testing.T) {
	s := greatest().with(seen(0, 0, -most, -end), seen(7, 63, -most, most), seen(4, 30, -end, most))
	l := known(t, s)
	if len(l) != 512 || l[0] != span(-end, -end) || l[511] != span(-end, 5*slope) {
		t.Error(len(l), l[0], l[511])
	}
	flat := greatest()
	flat.f.Space, flat.f.Change = 0, 0
	l = known(t, flat.with(seen(3, 17, -5, 7), seen(7, 63, 6, most)))
	equal(t, "flat", l, api.OK, slices.Repeat([]api.Span{span(6, 7)}, 512), api.OK)
	full := greatest()
	for i := range api.MaxSeen {
		full.l = append(full.l, seen(i%8, i, int64(i), 1000*int64(i+1)))
	}
	known(t, full)
}

// P10.4: random seas, also with observations that are not consistent.
func TestSetsRandom(t *testing.T) {
	r := rand.New(rand.NewSource(5))
	for range 2500 {
		known(t, sizes()[r.Intn(len(sizes()))].anySea(r))
	}
}

// P10.8: values that fit lie in all sets.
func TestTruthOfSets(t *testing.T) {
	r := rand.New(rand.NewSource(6))
	for range 800 {
		s, v := someSea(r)
		for i, set := range known(t, s) {
			if v[i] < set.Lo || v[i] > set.Hi {
				t.Fatal(s, v, i, set)
			}
		}
	}
}

// P10.9: the Lo of all sets together fit the observations, and so do the Hi.
func TestEndsFit(t *testing.T) {
	r := rand.New(rand.NewSource(7))
	for range 800 {
		s, _ := someSea(r)
		lo, hi := ends(known(t, s))
		x, e := field.Fits(s.f, s.l, lo)
		same(t, s, x, e, true, api.OK)
		x, e = field.Fits(s.f, s.l, hi)
		same(t, s, x, e, true, api.OK)
	}
}

// P10.9: for tiny seas, of which all values are tried: the sets are just the values
// that are possible, and there are values just if the observations are consistent.
func TestSetsAreExact(t *testing.T) {
	r := rand.New(rand.NewSource(8))
	empty := 0
	for range 800 {
		s := tiny()[r.Intn(3)].anySea(r)
		all := s.values()
		l := known(t, s)
		if (len(all) > 0) != (len(l) > 0) {
			t.Fatal(s, all, l)
		}
		if len(all) == 0 {
			empty++
			continue
		}
		for i, set := range l {
			got := api.Span{Lo: all[0][i], Hi: all[0][i]}
			for _, v := range all {
				got = span(min(got.Lo, v[i]), max(got.Hi, v[i]))
			}
			if got != set {
				t.Fatal(s, i, set, got)
			}
		}
	}
	if empty < 50 {
		t.Error("few seas without values:", empty)
	}
}

// P10.10: one more observation makes no set wider; neither the order of
// observations matters, nor one that is repeated.
func TestMoreSeen(t *testing.T) {
	r := rand.New(rand.NewSource(9))
	for range 800 {
		s, v := someSea(r)
		before := known(t, s)
		after := known(t, s.with(s.someSeen(r, v, 5)))
		for i, set := range after {
			if set.Lo < before[i].Lo || set.Hi > before[i].Hi {
				t.Fatal(s, i, before[i], set)
			}
		}
		other := s.clone()
		r.Shuffle(len(other.l), func(i, k int) { other.l[i], other.l[k] = other.l[k], other.l[i] })
		if len(s.l) > 0 {
			other = other.with(s.l[r.Intn(len(s.l))])
		}
		equal(t, s, known(t, other), api.OK, before, api.OK)
	}
}
