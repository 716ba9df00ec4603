package cable_test

import (
	"math"
	"math/rand"
	"slices"
	"testing"

	"isobath/api"
	"isobath/cable"
)

// number is one of the numbers of a cable, with its least and its greatest value.
type number struct {
	name     string
	of       func(c *api.Cable) *int64
	from, to int64
}

// spanOf is one of the spans of a cable, with the greatest number that it may have.
type spanOf struct {
	name string
	of   func(c *api.Cable) *api.Span
	to   int64
}

// P4.1: each number of a node may be at its limits, and not beyond them.
func TestCheckNumbers(t *testing.T) {
	var l []number
	for k := range 4 {
		l = append(l,
			number{"limit", func(c *api.Cable) *int64 { return &c.Nodes[k].Limit }, 0, 60 << 16},
			number{"least", func(c *api.Cable) *int64 { return &c.Nodes[k].Least }, 0, 1 << 26})
		if k > 0 {
			l = append(l, number{"delay", func(c *api.Cable) *int64 { return &c.Nodes[k].Delay }, -1, 1 << 20})
		}
	}
	for _, n := range l {
		try := func(x int64, want api.Errno) {
			t.Helper()
			c := example()
			*n.of(&c) = x
			if e := cable.Check(c); e != want {
				t.Error(n.name, x, e)
			}
		}
		for _, x := range []int64{n.from, n.from + 1, n.to - 1, n.to} {
			try(x, api.OK)
		}
		for _, x := range append(wildNumbers(), n.from-1, n.to+1) {
			try(x, api.ErrArg)
		}
	}
}

// P4.1: each span of a cable may be at its limits, and not beyond them.
func TestCheckSpans(t *testing.T) {
	l := []spanOf{{"supply", func(c *api.Cable) *api.Span { return &c.Supply }, 1 << 26}}
	for k := range 4 {
		l = append(l, spanOf{"load", func(c *api.Cable) *api.Span { return &c.Nodes[k].Load }, 1 << 16})
		if k > 0 {
			l = append(l, spanOf{"ohms", func(c *api.Cable) *api.Span { return &c.Nodes[k].Ohms }, 1 << 24})
		}
	}
	for _, s := range l {
		try := func(a api.Span, want api.Errno) {
			t.Helper()
			c := example()
			*s.of(&c) = a
			if e := cable.Check(c); e != want {
				t.Error(s.name, a, e)
			}
		}
		for _, a := range goodSpans(0, s.to) {
			try(a, api.OK)
		}
		for _, a := range badSpans(0, s.to) {
			try(a, api.ErrArg)
		}
	}
}

// P4.1: the parent of each node comes before it.
func TestCheckParents(t *testing.T) {
	for k := range 4 {
		for _, p := range []int{math.MinInt, -2, -1, 0, 1, 2, 3, 4, 60, math.MaxInt} {
			c := example()
			c.Nodes[k].Parent = p
			want := api.ErrArg
			if k == 0 && p == -1 || k > 0 && 0 <= p && p < k {
				want = api.OK
			}
			if e := cable.Check(c); e != want {
				t.Error(k, p, e)
			}
		}
	}
}

// P4.1: the node 0 has neither a resistance nor a breaker.
func TestCheckShore(t *testing.T) {
	for _, a := range []api.Span{span(0, 1), span(1, 1), span(-1, 0), span(-1, 1), span(1, 0), span(0, 1<<24)} {
		c := example()
		c.Nodes[0].Ohms = a
		if e := cable.Check(c); e != api.ErrArg {
			t.Error(a, e)
		}
	}
	for _, d := range []int64{math.MinInt64, -2, 0, 1, 30, 1 << 20, 1<<20 + 1, math.MaxInt64} {
		c := example()
		c.Nodes[0].Delay = d
		if e := cable.Check(c); e != api.ErrArg {
			t.Error(d, e)
		}
	}
}

// P4.1: how many nodes there are, and that too many of them come first.
func TestCheckMany(t *testing.T) {
	bad := chain(61)
	bad.Supply = span(1, 0)
	bad.Nodes[0].Limit, bad.Nodes[60].Limit = -1, -1
	last := chain(60)
	last.Nodes[59].Limit = -1
	for _, x := range []struct {
		name string
		c    api.Cable
		want api.Errno
	}{
		{"nil", api.Cable{}, api.ErrArg},
		{"none", api.Cable{Nodes: []api.Node{}}, api.ErrArg},
		{"one", chain(1), api.OK},
		{"all", chain(60), api.OK},
		{"all at their limits", greatest(), api.OK},
		{"too many", chain(61), api.ErrMany},
		{"too many, not valid", bad, api.ErrMany},
		{"the last not valid", last, api.ErrArg},
		{"the zero node", api.Cable{Nodes: make([]api.Node, 1)}, api.ErrArg},
		{"the example", example(), api.OK},
	} {
		if e := cable.Check(x.c); e != x.want {
			t.Error(x.name, e)
		}
	}
}

// P4.1: the chapter's examples of Path and Subtree.
func TestExamplesOfPaths(t *testing.T) {
	l, e := cable.Path(example(), 2)
	same(t, "path of 2", l, e, []int{2, 1, 0}, api.OK)
	l, e = cable.Subtree(example(), 1)
	same(t, "subtree of 1", l, e, []int{1, 2, 3}, api.OK)
}

// P4.1: paths and subtrees, also where a subtree is not a row of indexes.
func TestPathSubtree(t *testing.T) {
	c := bare(0, 0, 1, 2, 3, 0, 1, 5)
	for k, want := range [][]int{{0}, {1, 0}, {2, 0}, {3, 1, 0}, {4, 2, 0}, {5, 3, 1, 0}, {6, 0}, {7, 1, 0}, {8, 5, 3, 1, 0}} {
		l, e := cable.Path(c, k)
		same(t, k, l, e, want, api.OK)
	}
	for k, want := range [][]int{{0, 1, 2, 3, 4, 5, 6, 7, 8}, {1, 3, 5, 7, 8}, {2, 4}, {3, 5, 8}, {4}, {5, 8}, {6}, {7}, {8}} {
		l, e := cable.Subtree(c, k)
		same(t, k, l, e, want, api.OK)
	}
	r := rand.New(rand.NewSource(1))
	for range 300 {
		c := someTree(r, 60)
		for k := range c.Nodes {
			l, e := cable.Path(c, k)
			same(t, k, l, e, pathOf(c, k), api.OK)
			l, e = cable.Subtree(c, k)
			same(t, k, l, e, subtreeOf(c, k), api.OK)
		}
	}
}

// P4.1: the longest path, and nodes that are not there.
func TestPathErrors(t *testing.T) {
	c := chain(60)
	l, e := cable.Path(c, 59)
	if e != api.OK || len(l) != 60 || l[0] != 59 || l[59] != 0 {
		t.Error(l, e)
	}
	for _, c := range []api.Cable{c, example(), chain(1)} {
		for _, k := range []int{math.MinInt, -1, len(c.Nodes), len(c.Nodes) + 1, 1 << 32, math.MaxInt} {
			l, e := cable.Path(c, k)
			same(t, k, l, e, nil, api.ErrRange)
			l, e = cable.Subtree(c, k)
			same(t, k, l, e, nil, api.ErrRange)
		}
	}
}

// R5 and R10: no function changes its arguments, no result shares memory with
// another one, and equal calls return equal results.
func TestMemory(t *testing.T) {
	c, requests, ranks, grants := example(), []int64{0, 200, 300, 200}, []int{0, 1, 2, 3}, []int64{1, 2, 3, 400}
	faults, stuck, lengths := []int{2, 3}, []int{2}, []int64{0, 2200, 500, 900}
	measures := []api.Measure{{Kind: api.MeasureFar, Value: span(300, 400), By: span(2500, 2600)}, {Kind: api.MeasureFar, By: span(2000, 2200)}}
	type all struct {
		path, subtree, lost, segments []int
		currents, voltages            []api.Span
		within, fed                   []api.Answer
		shared                        []int64
	}
	call := func() (a all) {
		a.path, _ = cable.Path(c, 2)
		a.subtree, _ = cable.Subtree(c, 1)
		a.lost, _ = cable.Lost(c, faults, stuck)
		a.segments, _ = cable.Segments(c, lengths, 2, span(2100, 2300))
		a.currents, _ = cable.Currents(c)
		a.voltages, _ = cable.Voltages(c)
		a.within, _ = cable.Within(c)
		a.fed, _ = cable.Fed(c)
		a.shared, _ = cable.Share(c, requests, ranks)
		cable.CheckShare(c, grants)
		cable.Opens(c, 2, stuck)
		cable.Coordinated(c, 21)
		cable.Locate(measures)
		return a
	}
	spoil := func(a all) {
		for _, l := range [][]int{a.path, a.subtree, a.lost, a.segments} {
			clear(l)
		}
		clear(a.currents)
		clear(a.voltages)
		clear(a.within)
		clear(a.fed)
		clear(a.shared)
	}
	before := kept(c)
	spoil(call())
	a := call()
	if !equal(c, before) || !slices.Equal(requests, []int64{0, 200, 300, 200}) || !slices.Equal(ranks, []int{0, 1, 2, 3}) ||
		!slices.Equal(grants, []int64{1, 2, 3, 400}) || !slices.Equal(faults, []int{2, 3}) || !slices.Equal(stuck, []int{2}) ||
		!slices.Equal(lengths, []int64{0, 2200, 500, 900}) || measures[0].Value != span(300, 400) || measures[1].By != span(2000, 2200) {
		t.Error("an argument is changed")
	}
	same(t, "path", a.path, api.OK, []int{2, 1, 0}, api.OK)
	same(t, "subtree", a.subtree, api.OK, []int{1, 2, 3}, api.OK)
	same(t, "lost", a.lost, api.OK, []int{1, 2, 3}, api.OK)
	same(t, "segments", a.segments, api.OK, []int{1, 2}, api.OK)
	same(t, "currents", a.currents, api.OK, []api.Span{span(300, 450), span(300, 450), span(200, 300), span(0, 50)}, api.OK)
	same(t, "shared", a.shared, api.OK, []int64{0, 0, 300, 200}, api.OK)
	same(t, "fed", a.fed, api.OK, []api.Answer{api.Yes, api.Yes, api.Open, api.Open}, api.OK)
}

// R4 and R10: what is called in between changes no result.
func TestAgain(t *testing.T) {
	r := rand.New(rand.NewSource(2))
	for range 50 {
		c, d := someCable(r, 20), someCable(r, 20)
		f := r.Intn(len(c.Nodes))
		l, e := cable.Lost(c, []int{f}, nil)
		v, _ := cable.Voltages(c)
		cable.Lost(d, []int{1}, nil)
		cable.Voltages(d)
		m, g := cable.Lost(c, []int{f}, nil)
		same(t, "lost", m, g, l, e)
		w, g := cable.Voltages(c)
		same(t, "voltages", w, g, v, api.OK)
	}
}
