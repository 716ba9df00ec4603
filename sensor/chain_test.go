package sensor_test

import (
	"math"
	"math/rand"
	"slices"
	"testing"

	"isobath/api"
	"isobath/sensor"
)

// told returns a constraint.
func told(step, of int, lo, hi int64) api.Bounded {
	return api.Bounded{By: by(step, of), Set: span(lo, hi)}
}

// P6.3: the constraints of the chapter's example, in the order of the steps.
func TestConstraintsOfExample(t *testing.T) {
	for _, x := range []struct {
		chain []int
		i     int
		want  []api.Bounded
	}{
		{nil, 0, nil},
		{[]int{1}, 0, []api.Bounded{told(1, 0, 470, 530)}},
		{[]int{1}, 1, []api.Bounded{told(1, 0, 495, 550)}},
		{[]int{3}, 0, nil},
		{[]int{4}, 1, nil},
		{[]int{3, 4}, 0, []api.Bounded{told(4, 1, 280, 700)}},
		{[]int{3, 4}, 1, []api.Bounded{told(3, 0, 480, 500)}},
		{[]int{1, 2, 3}, 1, []api.Bounded{told(1, 0, 495, 550), told(2, 0, 0, 505), told(3, 0, 480, 500)}},
		{[]int{3, 2, 1}, 1, []api.Bounded{told(3, 0, 480, 500), told(2, 0, 0, 505), told(1, 0, 495, 550)}},
		{[]int{4, 2, 1}, 0, []api.Bounded{told(4, 1, 295, 705), told(2, 0, 400, 600), told(1, 0, 470, 530)}},
		{[]int{1, 4}, 1, []api.Bounded{told(1, 0, 495, 550), told(4, 0, 270, 730)}},
		{[]int{2, 4, 3}, 1, []api.Bounded{told(2, 0, 0, 505), told(4, 0, 200, 800), told(3, 0, 480, 500)}},
	} {
		l, e := sensor.Constraints(example(), exampleSamples(), x.chain, x.i)
		equal(t, x.chain, l, e, x.want, api.OK)
	}
}

// P6.3: neighbours are named in their order, and other samples in theirs,
// without the sample itself and those that bound nothing.
func TestConstraintsInOrder(t *testing.T) {
	l := []api.Sample{sample(0, 0, 9), sample(1440, 50, 59), sample(2880, 70, 79), sample(4320, 30, 39), sample(5760, 40, 49)}
	l[2].Near = []api.Span{span(5, 6), span(3, 4), span(5, 6), span(-7, 8)}
	l[3].Climate = span(40, 50)
	c, e := sensor.Constraints(exact(10), l, []int{3, 4, 1}, 2)
	equal(t, "none empty", c, e, []api.Bounded{
		told(3, 0, 5, 6), told(3, 1, 3, 4), told(3, 2, 5, 6), told(3, 3, -7, 8),
		told(4, 0, -20, 29), told(4, 1, 40, 69), told(4, 3, 20, 49), told(4, 4, 20, 69),
		told(1, 0, 70, 79),
	}, api.OK)
	c, e = sensor.Constraints(exact(10), l, []int{4, 2, 1}, 1)
	equal(t, "the fourth empty", c, e, []api.Bounded{
		told(4, 0, -10, 19), told(4, 2, 60, 89), told(4, 4, 10, 79),
		told(2, 0, -1000, 1000), told(1, 0, 50, 59),
	}, api.OK)
	c, e = sensor.Constraints(exact(10), l, []int{3, 4}, 4)
	equal(t, "only one with neighbours, and this is empty", c, e, nil, api.OK)
	l[2].Near = l[2].Near[2:]
	c, e = sensor.Constraints(exact(10), l, []int{3, 4}, 4)
	equal(t, "only one with neighbours", c, e, []api.Bounded{told(4, 2, -15, 26)}, api.OK)
}

// P6.3: without an offset, or with one that is empty, there is no constraint by
// the reading; what other samples tell begins with their own sets, not with what
// these are told by others.
func TestConstraintsWithout(t *testing.T) {
	l := []api.Sample{sample(100, 0, 10), sample(1540, 5, 6), sample(2980, 500, 510)}
	s := api.Sensor{Events: []api.Event{clean(1000, 0, 0), check(1500, 1, 2), clean(2000, 100, 100)}, Change: 3}
	for i, want := range [][]api.Bounded{nil, nil, {told(1, 0, 400, 410)}} {
		c, e := sensor.Constraints(s, l, []int{1}, i)
		equal(t, i, c, e, want, api.OK)
	}
	for i, want := range [][]api.Bounded{{told(4, 2, 394, 416)}, {told(4, 2, 397, 413)}, {told(1, 0, 400, 410)}} {
		c, e := sensor.Constraints(s, l, []int{4, 1}, i)
		equal(t, i, c, e, want, api.OK)
	}
	for i := range l {
		c, e := sensor.Constraints(api.Sensor{}, l, []int{4, 1, 3}, i)
		equal(t, i, c, e, nil, api.OK)
	}
}

// P6.3: the reach of Change is rounded up, and constraints may be beyond
// MaxValue.
func TestConstraintsReach(t *testing.T) {
	for _, x := range []struct {
		change, apart, reach int64
	}{
		{0, 1, 0}, {0, latest, 0}, {1, 1, 1}, {1, 1440, 1}, {1, 1441, 2}, {1, 2880, 2}, {1439, 1, 1}, {1440, 1, 1}, {1441, 1, 2},
		{100, 2880, 200}, {100, 14, 1}, {100, 15, 2}, {api.MaxRate, 1, 729}, {1, latest, 745655}, {api.MaxRate, latest, 781874935308},
	} {
		l := []api.Sample{sample(0, -5, 5), sample(x.apart, 7, 8)}
		c, e := sensor.Constraints(exact(x.change), l, []int{1, 4}, 1)
		equal(t, x, c, e, []api.Bounded{told(1, 0, 7, 8), told(4, 0, -5-x.reach, 5+x.reach)}, api.OK)
		c, e = sensor.Constraints(exact(x.change), l, []int{1, 4}, 0)
		equal(t, x, c, e, []api.Bounded{told(1, 0, -5, 5), told(4, 1, 7-x.reach, 8+x.reach)}, api.OK)
	}
	s := api.Sensor{Events: []api.Event{check(0, -most, most)}, Drift: api.MaxRate}
	l := []api.Sample{{At: latest, Raw: span(-most, most), Climate: span(-most, most), Near: []api.Span{span(most, most)}}}
	c, e := sensor.Constraints(s, l, []int{1, 2, 3}, 0)
	wide := int64(2*most + 781874935308)
	equal(t, "at the limits", c, e, []api.Bounded{told(1, 0, -wide, wide), told(2, 0, -most, most), told(3, 0, most, most)}, api.OK)
}

// P6.3: samples that are not there.
func TestConstraintsRange(t *testing.T) {
	for _, i := range []int{-1, 2, 3, math.MinInt, math.MaxInt} {
		c, e := sensor.Constraints(example(), exampleSamples(), []int{1}, i)
		equal(t, i, c, e, nil, api.ErrRange)
	}
	for _, i := range []int{-1, 0, 1} {
		c, e := sensor.Constraints(example(), nil, nil, i)
		equal(t, i, c, e, nil, api.ErrRange)
	}
}

// P6.3: Constraints agrees with the definitions.
func TestConstraintsAreDefined(t *testing.T) {
	r := rand.New(rand.NewSource(2))
	many := map[int]int{}
	for range 4000 {
		s, l, c := someSensor(r, 6), someSamples(r, 6), someChain(r)
		for i := range l {
			want := constraintsOf(s, l, c, i)
			got, e := sensor.Constraints(s, l, c, i)
			equal(t, c, got, e, want, api.OK)
			for _, b := range got {
				many[b.By.Step]++
			}
		}
	}
	for step := 1; step <= 4; step++ {
		if many[step] < 1000 {
			t.Error(many)
		}
	}
}

// P6.3: as many constraints as there can be.
func TestConstraintsOfMany(t *testing.T) {
	l := row(64)
	for i := range l {
		l[i].Near = slices.Repeat([]api.Span{span(int64(-i), 5)}, 8)
	}
	for i := range l {
		c, e := sensor.Constraints(exact(1440), l, []int{4, 3, 2, 1}, i)
		if len(c) != 73 || e != api.OK {
			t.Fatal(i, len(c), e)
		}
		equal(t, i, c, e, constraintsOf(exact(1440), l, []int{4, 3, 2, 1}, i), api.OK)
	}
}
