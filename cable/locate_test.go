package cable_test

import (
	"math"
	"math/big"
	"math/rand"
	"slices"
	"testing"

	"isobath/api"
	"isobath/cable"
)

const most = api.MaxValue

func ohms(value, by api.Span) api.Measure {
	return api.Measure{Kind: api.MeasureOhms, Value: value, By: by}
}

func echo(value, by api.Span) api.Measure {
	return api.Measure{Kind: api.MeasureEcho, Value: value, By: by}
}

func far(value, by api.Span) api.Measure {
	return api.Measure{Kind: api.MeasureFar, Value: value, By: by}
}

// from returns a measurement whose distance is a span.
func from(a api.Span) api.Measure {
	less := max(0, -a.Lo)
	return far(exactly(less), span(a.Lo+less, a.Hi+less))
}

// P4.7: the chapter's examples.
func TestExamplesOfPlaces(t *testing.T) {
	l := []api.Measure{
		ohms(span(1000, 1100), span(400, 500)),
		echo(span(20000, 20000), span(150000, 160000)),
		far(span(300, 400), span(2500, 2600)),
	}
	for i, want := range []api.Span{span(2000, 2750), span(1500, 1600), span(2100, 2300)} {
		if d, e := cable.Distance(l[i]); d != want || e != api.OK {
			t.Error(i, d, e)
		}
	}
	if d, e := cable.Locate([]api.Measure{l[0], l[2]}); d != span(2100, 2300) || e != api.OK {
		t.Error(d, e)
	}
}

// P4.7: distances that are rounded, that are below 0, and at the limits.
func TestDistance(t *testing.T) {
	for i, x := range []struct {
		m    api.Measure
		want api.Span
		e    api.Errno
	}{
		{ohms(exactly(0), exactly(1)), span(0, 0), api.OK},
		{ohms(exactly(1), exactly(3)), span(333, 334), api.OK},
		{ohms(exactly(1), exactly(1000)), span(1, 1), api.OK},
		{ohms(exactly(1), exactly(1001)), span(0, 1), api.OK},
		{ohms(exactly(1<<24), exactly(1<<24)), span(1000, 1000), api.OK},
		{ohms(exactly(1<<24), exactly(16)), span(1000<<20, 1000<<20), api.OK},
		{ohms(span(0, 1<<24), span(16, 1<<24)), span(0, 1000<<20), api.OK},
		{ohms(exactly(1<<24), exactly(15)), api.Span{}, api.ErrOver},
		{ohms(span(0, 1<<24), span(15, 1<<24)), api.Span{}, api.ErrOver},
		{ohms(span(0, 1<<24), span(1, 1<<24)), api.Span{}, api.ErrOver},
		// A distance of 2^30 - 1/3 is rounded up to the limit, one of 2^30 + 1/3 to 1 above it.
		{ohms(exactly(1073741), exactly(1)), span(1073741000, 1073741000), api.OK},
		{ohms(exactly(1073742), exactly(1)), api.Span{}, api.ErrOver},
		{ohms(exactly(13421773), exactly(12)), api.Span{}, api.ErrOver},
		{ohms(exactly(9663676), exactly(9)), span(1073741777, 1073741778), api.OK},
		{ohms(exactly(9663677), exactly(9)), api.Span{}, api.ErrOver},
		{ohms(exactly(3221225), exactly(3)), span(1073741666, 1073741667), api.OK},
		{echo(exactly(0), exactly(1)), span(0, 0), api.OK},
		{echo(exactly(1), exactly(1)), span(0, 1), api.OK},
		{echo(exactly(2000000), exactly(1)), span(1, 1), api.OK},
		{echo(exactly(2000001), exactly(1)), span(1, 2), api.OK},
		{echo(exactly(1999999), exactly(1)), span(0, 1), api.OK},
		{echo(exactly(1<<26), exactly(300000)), span(10066329, 10066330), api.OK},
		{echo(span(0, 1<<26), span(1, 300000)), span(0, 10066330), api.OK},
		{echo(span(3, 7), span(199999, 200001)), span(0, 1), api.OK},
		{echo(span(30, 50), span(199999, 200001)), span(2, 6), api.OK},
		{far(exactly(0), exactly(0)), span(0, 0), api.OK},
		{far(span(5, 9), span(1, 3)), span(-8, -2), api.OK},
		{far(span(0, most), span(0, most)), span(-most, most), api.OK},
		{far(exactly(most), exactly(0)), span(-most, -most), api.OK},
		{far(exactly(0), exactly(most)), span(most, most), api.OK},
	} {
		if d, e := cable.Distance(x.m); d != x.want || e != x.e {
			t.Error(i, x.m, d, e)
		}
	}
}

// P4.7: the limits of each kind, for both of its spans; and other kinds.
func TestDistanceErrors(t *testing.T) {
	for _, x := range []struct {
		kind                 int
		most, byLeast, byMax int64
	}{
		{1, 1 << 24, 1, 1 << 24},
		{2, 1 << 26, 1, 300000},
		{3, 1 << 30, 0, 1 << 30},
	} {
		good := api.Measure{Kind: x.kind, Value: span(5, 6), By: span(1000, 1001)}
		try := func(value, by api.Span, valid bool) {
			t.Helper()
			d, e := cable.Distance(api.Measure{Kind: x.kind, Value: value, By: by})
			if valid != (e == api.OK) || !valid && (e != api.ErrArg || d != api.Span{}) {
				t.Error(x.kind, value, by, d, e)
			}
		}
		for _, a := range goodSpans(0, x.most) {
			try(a, good.By, true)
		}
		for _, a := range badSpans(0, x.most) {
			try(a, good.By, false)
		}
		for _, a := range goodSpans(x.byLeast, x.byMax) {
			try(good.Value, a, true)
		}
		for _, a := range badSpans(x.byLeast, x.byMax) {
			try(good.Value, a, false)
		}
	}
	for _, kind := range []int{math.MinInt, -1, 0, 4, 5, 1 << 32, 1<<32 + 1, math.MaxInt} {
		if d, e := cable.Distance(api.Measure{Kind: kind, Value: exactly(5), By: exactly(1000)}); e != api.ErrArg || d != (api.Span{}) {
			t.Error(kind, d, e)
		}
	}
	if d, e := cable.Distance(api.Measure{}); e != api.ErrArg || d != (api.Span{}) {
		t.Error(d, e)
	}
}

// reached returns the expression of a measurement for one number of both spans.
func reached(kind int, value, by *big.Rat) *big.Rat {
	x := new(big.Rat)
	switch kind {
	case api.MeasureOhms:
		return x.Mul(value, big.NewRat(1000, 1)).Quo(x, by)
	case api.MeasureEcho:
		return x.Mul(value, by).Quo(x, big.NewRat(2000000, 1))
	}
	return x.Sub(by, value)
}

// atEnds returns the expression for all ends of both spans.
func atEnds(m api.Measure) []*big.Rat {
	var l []*big.Rat
	for _, v := range []int64{m.Value.Lo, m.Value.Hi} {
		for _, b := range []int64{m.By.Lo, m.By.Hi} {
			l = append(l, reached(m.Kind, big.NewRat(v, 1), big.NewRat(b, 1)))
		}
	}
	return l
}

// someMeasure returns a valid measurement of a kind.
func someMeasure(r *rand.Rand, kind int) api.Measure {
	m := api.Measure{Kind: kind}
	limits := [][2]int64{api.MeasureOhms: {1 << 24, 1<<24 - 1}, api.MeasureEcho: {1 << 26, 299999}, api.MeasureFar: {most, most}}[kind]
	m.Value, m.By = someSpan(r, limits[0]), someSpan(r, limits[1])
	if kind != api.MeasureFar {
		m.By = span(m.By.Lo+1, m.By.Hi+1)
	}
	return m
}

// P4.7 and P4.14: a distance is the span of the values at the ends of both
// spans, rounded outward: less than 1 away from them.
func TestTight(t *testing.T) {
	r := rand.New(rand.NewSource(11))
	over := 0
	for i := range 6000 {
		m := someMeasure(r, 1+i%3)
		l := atEnds(m)
		least, greatest := slices.MinFunc(l, (*big.Rat).Cmp), slices.MaxFunc(l, (*big.Rat).Cmp)
		d, e := cable.Distance(m)
		want := rounded(least, greatest)
		if want.Hi > most {
			over++
			if e != api.ErrOver || d != (api.Span{}) {
				t.Fatal(m, d, e)
			}
			continue
		}
		if d != want || e != api.OK {
			t.Fatal(m, d, e, want)
		}
		if !inside(span(d.Lo, d.Lo+1), least) || !inside(span(d.Hi-1, d.Hi), greatest) ||
			least.Cmp(big.NewRat(d.Lo+1, 1)) == 0 || greatest.Cmp(big.NewRat(d.Hi-1, 1)) == 0 {
			t.Fatal(m, d, least, greatest)
		}
		if x := reached(m.Kind, pick(r, m.Value), pick(r, m.By)); !inside(d, x) {
			t.Fatal(m, d, x)
		}
	}
	if over == 0 || over > 2000 {
		t.Error(over, "are over")
	}
}

// P4.9 and G1: narrower spans give a distance in the former one.
func TestNarrowerMeasures(t *testing.T) {
	r := rand.New(rand.NewSource(12))
	for i := range 3000 {
		m := someMeasure(r, 1+i%3)
		n := m
		n.Value, n.By = narrower(r, m.Value), narrower(r, m.By)
		d, e := cable.Distance(m)
		if x, f := cable.Distance(n); e == api.OK && (f != api.OK || !contains(d, x)) {
			t.Fatal(m, n, d, x, f)
		}
	}
}

// P4.7: the common part of all distances, also of one number, and none.
func TestLocate(t *testing.T) {
	three := []api.Measure{from(span(0, 10)), from(span(5, 20)), from(span(10, 30))}
	over, bad := ohms(exactly(1<<24), exactly(1)), api.Measure{Kind: 4}
	for i, x := range []struct {
		l    []api.Measure
		want api.Span
		e    api.Errno
	}{
		{nil, api.Span{}, api.ErrNone},
		{[]api.Measure{}, api.Span{}, api.ErrNone},
		{three[:1], span(0, 10), api.OK},
		{three[:2], span(5, 10), api.OK},
		{three, span(10, 10), api.OK},
		{append(three[:3:3], from(span(11, 12))), api.Span{}, api.ErrSum},
		{[]api.Measure{from(span(0, 10)), from(span(11, 20))}, api.Span{}, api.ErrSum},
		{[]api.Measure{from(span(11, 20)), from(span(0, 10))}, api.Span{}, api.ErrSum},
		{[]api.Measure{from(span(-20, -9)), from(span(-10, 5))}, span(-10, -9), api.OK},
		{[]api.Measure{from(span(-20, 30)), from(span(4, 5)), from(span(0, 9))}, span(4, 5), api.OK},
		// The error of a measurement comes before distances without a common part.
		{[]api.Measure{from(span(0, 1)), from(span(3, 4)), over}, api.Span{}, api.ErrOver},
		{[]api.Measure{from(span(0, 1)), from(span(3, 4)), bad}, api.Span{}, api.ErrArg},
		{[]api.Measure{from(span(0, 1)), over, bad}, api.Span{}, api.ErrOver},
		{[]api.Measure{bad, over}, api.Span{}, api.ErrArg},
		{slices.Repeat(three[:1], 32), span(0, 10), api.OK},
		{slices.Repeat(three[:1], 33), api.Span{}, api.ErrMany},
		{slices.Repeat([]api.Measure{bad}, 33), api.Span{}, api.ErrMany},
		{slices.Repeat([]api.Measure{bad}, 32), api.Span{}, api.ErrArg},
	} {
		if d, e := cable.Locate(x.l); d != x.want || e != x.e {
			t.Error(i, d, e)
		}
	}
}

// P4.8: the chapter's examples of Segments.
func TestExamplesOfSegments(t *testing.T) {
	l, e := cable.Segments(example(), []int64{0, 2200, 500, 900}, 2, span(2100, 2300))
	same(t, "(2100, 2300)", l, e, []int{1, 2}, api.OK)
	l, e = cable.Segments(example(), []int64{0, 2200, 500, 900}, 2, span(0, 100))
	same(t, "(0, 100)", l, e, []int{1}, api.OK)
}

// P4.8: segments contain both of their ends; only those of the route count.
func TestSegments(t *testing.T) {
	c := bare(0, 0, 1, 3, 2)
	// The route to 4 is 1 from 0 to 100, 3 from 100 to 100, and 4 from 100 to 150.
	lengths := []int64{0, 100, 70, 0, 50, 30}
	for _, x := range []struct {
		k     int
		place api.Span
		want  []int
	}{
		{4, span(0, 0), []int{1}},
		{4, span(-5, 0), []int{1}},
		{4, span(-5, -1), nil},
		{4, span(0, 99), []int{1}},
		{4, span(0, 100), []int{1, 3, 4}},
		{4, exactly(100), []int{1, 3, 4}},
		{4, exactly(101), []int{4}},
		{4, exactly(150), []int{4}},
		{4, span(150, 900), []int{4}},
		{4, span(151, 900), nil},
		{4, span(20, 30), []int{1}},
		{4, span(-most, most), []int{1, 3, 4}},
		{3, span(-most, most), []int{1, 3}},
		{1, span(-most, most), []int{1}},
		{0, span(-most, most), nil},
		{0, exactly(0), nil},
		{5, exactly(70), []int{2, 5}},
		{5, span(71, 100), []int{5}},
		{5, span(101, 150), nil},
		{2, span(71, 150), nil},
	} {
		l, e := cable.Segments(c, lengths, x.k, x.place)
		same(t, x.place, l, e, x.want, api.OK)
	}
	all := slices.Repeat([]int64{1 << 20}, 60)
	all[0] = 0
	l, e := cable.Segments(chain(60), all, 59, exactly(59<<20))
	same(t, "the end", l, e, []int{59}, api.OK)
	l, e = cable.Segments(chain(60), all, 59, span(59<<20+1, most))
	same(t, "beyond the end", l, e, nil, api.OK)
	l, e = cable.Segments(chain(1), []int64{0}, 0, exactly(0))
	same(t, "one node", l, e, nil, api.OK)
}

// P4.8: lengths, nodes and places that are not valid.
func TestSegmentsErrors(t *testing.T) {
	c, lengths, place := example(), []int64{0, 2200, 500, 900}, span(0, 100)
	for _, n := range []int{0, 3, 5} {
		l, e := cable.Segments(c, make([]int64, n), 2, place)
		same(t, n, l, e, nil, api.ErrEqual)
	}
	l, e := cable.Segments(c, nil, 2, place)
	same(t, "nil", l, e, nil, api.ErrEqual)
	for _, k := range []int{math.MinInt, -1, 4, 60, math.MaxInt} {
		l, e := cable.Segments(c, lengths, k, place)
		same(t, k, l, e, nil, api.ErrRange)
	}
	for i := range lengths {
		for _, x := range append(wildNumbers(), -1, 1<<20+1) {
			bad := slices.Clone(lengths)
			bad[i] = x
			// Also a length that is not on the route.
			l, e := cable.Segments(c, bad, 1, place)
			same(t, x, l, e, nil, api.ErrArg)
		}
		for _, x := range []int64{0, 1, 1<<20 - 1, 1 << 20} {
			good := slices.Clone(lengths)
			good[i] = x
			if _, e := cable.Segments(c, good, 3, place); (e == api.OK) != (i > 0 || x == 0) || e != api.OK && e != api.ErrArg {
				t.Error(i, x, e)
			}
		}
	}
	for _, a := range badSpans(-most, most) {
		l, e := cable.Segments(c, lengths, 2, a)
		same(t, a, l, e, nil, api.ErrArg)
	}
	for _, a := range goodSpans(-most, most) {
		if _, e := cable.Segments(c, lengths, 2, a); e != api.OK {
			t.Error(a, e)
		}
	}
}

// segmentsOf returns the segments of a route that may contain the fault, by the
// definition.
func segmentsOf(c api.Cable, lengths []int64, k int, place api.Span) []int {
	var l []int
	path := pathOf(c, k)
	for i, j := range path {
		begin := int64(0)
		for _, above := range path[i+1:] {
			begin += lengths[above]
		}
		if j != 0 && begin <= place.Hi && begin+lengths[j] >= place.Lo {
			l = append(l, j)
		}
	}
	slices.Reverse(l)
	return l
}

// around returns a span of whole numbers that contains a number above 0, and
// is within limits.
func around(r *rand.Rand, x *big.Rat, lo, hi int64) api.Span {
	a := rounded(x, x)
	return span(max(lo, a.Lo-r.Int63n(9)), min(hi, a.Hi+r.Int63n(9)))
}

// measured returns a measurement whose spans contain true quantities for a
// distance from 0 to 1,200 m.
func measured(r *rand.Rand, at *big.Rat) api.Measure {
	x := new(big.Rat)
	switch r.Intn(3) {
	case 0: // milliohms and milliohms of a km
		by := big.NewRat(2000+r.Int63n(5000), 1+r.Int63n(3))
		x.Mul(at, by).Quo(x, big.NewRat(1000, 1))
		return ohms(around(r, x, 0, 1<<24), around(r, by, 1, 1<<24))
	case 1: // ns and m in a ms
		by := big.NewRat(100000+r.Int63n(200000), 1)
		x.Mul(at, big.NewRat(2000000, 1)).Quo(x, by)
		return echo(around(r, x, 0, 1<<26), around(r, by, 1, 300000))
	}
	by := big.NewRat(2400+r.Int63n(999), 2)
	return far(around(r, x.Sub(by, at), 0, most), around(r, by, 0, most))
}

// P4.8, P4.13 and G3: the true distance lies in the place of the fault, and the
// true segment is one of those that may contain it. One more measurement never
// makes the place wider, and their order does not matter.
func TestLocated(t *testing.T) {
	r := rand.New(rand.NewSource(13))
	for range 2000 {
		c := someTree(r, 12)
		lengths := make([]int64, len(c.Nodes))
		for k := 1; k < len(c.Nodes); k++ {
			lengths[k] = r.Int63n(100)
		}
		k := r.Intn(len(c.Nodes))
		at, segment := someFault(r, c, lengths, k)
		var l []api.Measure
		former := span(-most, most)
		for range 1 + r.Intn(6) {
			l = append(l, measured(r, at))
			place, e := cable.Locate(l)
			if e != api.OK || !inside(place, at) || !contains(former, place) {
				t.Fatal(l, at, place, e, former)
			}
			segments, e := cable.Segments(c, lengths, k, place)
			same(t, place, segments, e, segmentsOf(c, lengths, k, place), api.OK)
			if segment > 0 && !slices.Contains(segments, segment) {
				t.Fatal(c, lengths, k, place, at, segment, segments)
			}
			former = place
		}
		r.Shuffle(len(l), func(i, j int) { l[i], l[j] = l[j], l[i] })
		if place, e := cable.Locate(l); place != former || e != api.OK {
			t.Fatal(l, place, e, former)
		}
	}
}

// someFault returns the distance of a fault on the route to a node, and the
// segment that it is in; for the node 0 there is none.
func someFault(r *rand.Rand, c api.Cable, lengths []int64, k int) (*big.Rat, int) {
	route := pathOf(c, k)
	slices.Reverse(route)
	if len(route) == 1 {
		return big.NewRat(r.Int63n(100), 3), 0
	}
	i := 1 + r.Intn(len(route)-1)
	begin := int64(0)
	for _, j := range route[:i] {
		begin += lengths[j]
	}
	return pick(r, span(begin, begin+lengths[route[i]])), route[i]
}
