package field_test

import (
	"math"
	"math/rand"
	"slices"
	"testing"

	"isobath/api"
	"isobath/field"
)

// fit asks whether values are possible, and whether they fit.
func fit(t *testing.T, s sea, v []int64) {
	t.Helper()
	x, e := field.Possible(s.f, v)
	same(t, []any{s, v}, x, e, s.possible(v), api.OK)
	x, e = field.Fits(s.f, s.l, v)
	same(t, []any{s, v}, x, e, s.fits(v), api.OK)
}

// P10.2: values of the examples' field.
func TestPossible(t *testing.T) {
	s := example()
	for _, x := range []struct {
		v              []int64
		possible, fits bool
	}{
		{[]int64{20, 30, 40, 25, 35, 45}, true, true},
		{[]int64{30, 40, 50, 35, 45, 55}, true, true},
		// The first observation, then the last one, is not met.
		{[]int64{19, 29, 39, 24, 34, 44}, true, false},
		{[]int64{31, 40, 50, 35, 45, 55}, true, false},
		{[]int64{20, 30, 39, 25, 34, 44}, true, false},
		{[]int64{0, 0, 0, 0, 0, 0}, true, false},
		{[]int64{100, 100, 100, 100, 100, 100}, true, false},
		// Outside of Range, by 1.
		{[]int64{-1, 0, 0, 0, 0, 0}, false, false},
		{[]int64{100, 100, 100, 100, 100, 101}, false, false},
		// Neighbours differ by more than Space, and moments by more than Change.
		{[]int64{20, 31, 40, 25, 35, 45}, false, false},
		{[]int64{30, 30, 41, 30, 36, 46}, false, false},
		{[]int64{20, 30, 40, 26, 35, 45}, false, false},
		{[]int64{20, 30, 40, 25, 35, 46}, false, false},
		{[]int64{25, 30, 40, 19, 29, 39}, false, false},
	} {
		got, e := field.Possible(s.f, x.v)
		same(t, x.v, got, e, x.possible, api.OK)
		got, e = field.Fits(s.f, s.l, x.v)
		same(t, x.v, got, e, x.fits, api.OK)
	}
}

// P10.2: there has to be one value for each spot.
func TestPossibleErrors(t *testing.T) {
	s := example()
	for _, n := range []int{0, 3, 5, 7, 512} {
		x, e := field.Possible(s.f, make([]int64, n))
		same(t, n, x, e, false, api.ErrEqual)
		x, e = field.Fits(s.f, s.l, make([]int64, n))
		same(t, n, x, e, false, api.ErrEqual)
	}
	x, e := field.Possible(api.Field{}, nil)
	same(t, "no field", x, e, false, api.ErrArg)
	x, e = field.Fits(api.Field{}, nil, nil)
	same(t, "no field", x, e, false, api.ErrArg)
	x, e = field.Fits(s.f, []api.Seen{seen(0, 3, 0, 0)}, nil)
	same(t, "no observation", x, e, false, api.ErrArg)
	// Fits does not ask for observations that are consistent: nothing fits them.
	x, e = field.Fits(s.f, []api.Seen{seen(0, 0, 0, 0), seen(0, 0, 1, 1)}, make([]int64, 6))
	same(t, "not consistent", x, e, false, api.OK)
	x, e = field.Fits(s.f, []api.Seen{seen(0, 0, 101, 200)}, slices.Repeat([]int64{100}, 6))
	same(t, "outside", x, e, false, api.OK)
}

// P10.2: values may be any numbers (R6).
func TestPossibleAnyNumbers(t *testing.T) {
	s := greatest()
	v := make([]int64, 512)
	fitsAll := func(want bool) {
		t.Helper()
		x, e := field.Possible(s.f, v)
		same(t, "values", x, e, want, api.OK)
		x, e = field.Fits(s.f, nil, v)
		same(t, "values", x, e, want, api.OK)
	}
	fitsAll(true)
	for _, x := range []int64{math.MinInt64, math.MaxInt64, slope + 1, -slope - 1, end + 1} {
		v[77] = x
		fitsAll(false)
	}
	for _, x := range []int64{slope, -slope} {
		v[77] = x
		fitsAll(true)
	}
	v = slices.Repeat([]int64{end}, 512)
	fitsAll(true)
	v[511]++
	fitsAll(false)
	v = slices.Repeat([]int64{math.MinInt64, math.MaxInt64}, 256)
	fitsAll(false)
}

// P10.2: random values, of which some neighbours differ by too much.
func TestPossibleRandom(t *testing.T) {
	r := rand.New(rand.NewSource(2))
	for range 600 {
		s, v := someSea(r)
		if len(v) > 130 {
			continue
		}
		fit(t, s, v)
		for range 6 {
			w := slices.Clone(v)
			w[r.Intn(len(w))] += r.Int63n(7) - 3
			fit(t, s, w)
		}
	}
}

// P10.2: all values of tiny fields.
func TestPossibleAll(t *testing.T) {
	r := rand.New(rand.NewSource(3))
	for range 300 {
		s, v := tiny()[r.Intn(3)].sea(r)
		for range 100 {
			for k := range v {
				v[k] = someNumber(r, span(s.f.Range.Lo-1, s.f.Range.Hi+1))
			}
			fit(t, s, v)
		}
	}
}

// contradicted asks for what contradicts itself.
func contradicted(t *testing.T, name any, s sea, i, k int, e api.Errno) {
	t.Helper()
	a, b, wrong := field.Contradict(s.f, s.l)
	if a != i || b != k || wrong != e {
		t.Fatal(name, s, a, b, wrong, "want", i, k, e)
	}
}

// P10.3: the chapter's examples, and contradictions by just 1.
func TestContradict(t *testing.T) {
	s := example()
	contradicted(t, "example", s, 0, 0, api.ErrNone)
	s.l[1] = seen(1, 2, 60, 70)
	contradicted(t, "example with 60", s, 1, 0, api.OK)
	s.l[0], s.l[1] = s.l[1], s.l[0]
	contradicted(t, "in the other order", s, 0, 1, api.OK)
	with := func(l ...api.Seen) sea { return sea{s.f, l} }
	contradicted(t, "none", with(), 0, 0, api.ErrNone)
	contradicted(t, "just near enough", with(seen(0, 0, 20, 30), seen(1, 2, 55, 70)), 0, 0, api.ErrNone)
	contradicted(t, "just too far", with(seen(0, 0, 20, 30), seen(1, 2, 56, 70)), 1, 0, api.OK)
	contradicted(t, "at one spot", with(seen(0, 1, 5, 6), seen(0, 1, 6, 7)), 0, 0, api.ErrNone)
	contradicted(t, "at one spot", with(seen(0, 1, 5, 6), seen(0, 1, 7, 7)), 1, 0, api.OK)
	// Those of Range, also by 1, come before all pairs.
	contradicted(t, "on the edge", with(seen(0, 0, -9, 0), seen(0, 2, 100, 200)), 1, 0, api.OK)
	contradicted(t, "below Range", with(seen(0, 0, -9, -1)), 0, 0, api.OK)
	contradicted(t, "above Range", with(seen(0, 1, 0, 100), seen(0, 0, 101, 200)), 1, 1, api.OK)
	contradicted(t, "Range first", with(seen(0, 1, 0, 0), seen(0, 1, 9, 9), seen(0, 0, 101, 200), seen(0, 0, 102, 102)), 2, 2, api.OK)
	// The least index of a pair, and with it the least other one.
	contradicted(t, "two pairs", with(seen(0, 0, 50, 50), seen(0, 0, 10, 20), seen(0, 0, 15, 16), seen(0, 0, 60, 60)), 0, 1, api.OK)
	contradicted(t, "a later pair", with(seen(0, 0, 10, 50), seen(0, 0, 15, 70), seen(0, 0, 60, 65), seen(0, 0, 1, 60), seen(0, 0, 12, 15)), 2, 0, api.OK)
}

// P10.3: with all numbers at their limits.
func TestContradictLimits(t *testing.T) {
	s := greatest()
	contradicted(t, "far", s.with(seen(0, 0, -most, -5*slope), seen(7, 63, 16*slope, most)), 0, 0, api.ErrNone)
	contradicted(t, "too far", s.with(seen(0, 0, -most, -5*slope-1), seen(7, 63, 16*slope, most)), 1, 0, api.OK)
	contradicted(t, "outside", s.with(seen(0, 0, most, most), seen(7, 63, -most, -most)), 0, 0, api.OK)
	contradicted(t, "all", s.with(slices.Repeat([]api.Seen{seen(3, 3, -most, most)}, 64)...), 0, 0, api.ErrNone)
}

// P10.3 and P10.11: random observations; two that are named are already not
// consistent alone.
func TestContradictRandom(t *testing.T) {
	r := rand.New(rand.NewSource(4))
	several := 0
	for range 4000 {
		s := sizes()[r.Intn(len(sizes()))].anySea(r)
		i, k, e := s.contradict()
		contradicted(t, "random", s, i, k, e)
		if e != api.OK {
			continue
		}
		several++
		two := sea{s.f, []api.Seen{s.l[i], s.l[k]}}
		if i == k {
			two.l = two.l[:1]
		}
		if _, _, e := field.Contradict(two.f, two.l); e != api.OK {
			t.Fatal(s, i, k, e)
		}
		if l, e := field.Sets(two.f, two.l); len(l) > 0 || e != api.ErrSum {
			t.Fatal(s, i, k, l, e)
		}
	}
	if several < 500 {
		t.Error("few contradictions:", several)
	}
}
