package cable_test

import (
	"math"
	"math/big"
	"math/rand"
	"slices"
	"testing"

	"isobath/api"
)

func span(lo, hi int64) api.Span { return api.Span{Lo: lo, Hi: hi} }

func exactly(x int64) api.Span { return span(x, x) }

// contains tells whether all numbers of b are in a.
func contains(a, b api.Span) bool { return a.Lo <= b.Lo && b.Hi <= a.Hi }

// example returns the cable of the chapter's examples.
func example() api.Cable {
	return api.Cable{Supply: exactly(10000), Nodes: []api.Node{
		{Parent: -1, Limit: 1000, Delay: api.NoBreaker},
		{Parent: 0, Ohms: span(100, 200), Limit: 500, Load: exactly(100), Least: 9000, Delay: 30},
		{Parent: 1, Ohms: exactly(1000), Limit: 300, Load: span(200, 300), Least: 9700, Delay: 10},
		{Parent: 1, Ohms: exactly(500), Limit: 300, Load: span(0, 50), Least: 9900, Delay: api.NoBreaker},
	}}
}

// bare returns a cable with these parents of the nodes from 1, without loads
// and breakers.
func bare(parents ...int) api.Cable {
	c := api.Cable{Nodes: []api.Node{{Parent: -1, Delay: api.NoBreaker}}}
	for _, p := range parents {
		c.Nodes = append(c.Nodes, api.Node{Parent: p, Delay: api.NoBreaker})
	}
	return c
}

// chain returns a cable of n nodes, each the parent of the next one.
func chain(n int) api.Cable {
	var parents []int
	for k := range n - 1 {
		parents = append(parents, k)
	}
	return bare(parents...)
}

// greatest returns a chain of MaxNodes nodes whose numbers are at their limits.
func greatest() api.Cable {
	c := chain(api.MaxNodes)
	c.Supply = exactly(api.MaxVolts)
	for k := range c.Nodes {
		n := &c.Nodes[k]
		n.Limit, n.Load, n.Least = api.MaxAmps*api.MaxNodes, exactly(api.MaxAmps), api.MaxVolts
		if k > 0 {
			n.Ohms, n.Delay = exactly(api.MaxOhms), api.MaxDelay
		}
	}
	return c
}

// delayed returns a cable with these delays of the nodes from 1.
func delayed(c api.Cable, delays ...int64) api.Cable {
	for k, d := range delays {
		c.Nodes[k+1].Delay = d
	}
	return c
}

// kept returns a copy of a cable that shares no memory with it.
func kept(c api.Cable) api.Cable {
	c.Nodes = slices.Clone(c.Nodes)
	return c
}

func equal(a, b api.Cable) bool { return a.Supply == b.Supply && slices.Equal(a.Nodes, b.Nodes) }

// wildNumbers returns numbers far beyond all limits.
func wildNumbers() []int64 {
	return []int64{math.MinInt64, math.MinInt64 + 1, -1 << 62, -1 << 32, 1 << 32, 1 << 62, math.MaxInt64 - 1, math.MaxInt64}
}

// badSpans returns spans that are not valid ones of numbers from lo to hi.
func badSpans(lo, hi int64) []api.Span {
	return []api.Span{
		span(lo+1, lo), span(hi, hi-1), span(lo-1, lo), span(lo-1, lo-1), span(hi, hi+1), span(hi+1, hi+1), span(lo-1, hi+1),
		span(math.MinInt64, math.MaxInt64), span(math.MaxInt64, math.MinInt64),
		span(math.MinInt64, math.MinInt64), span(math.MaxInt64, math.MaxInt64),
	}
}

// goodSpans returns spans of numbers from lo to hi that are at the limits.
func goodSpans(lo, hi int64) []api.Span {
	return []api.Span{span(lo, lo), span(lo, lo+1), span(lo, hi), span(hi-1, hi), span(hi, hi)}
}

// Random cables.

// amount returns a number from 0 to most, often at an end or small.
func amount(r *rand.Rand, most int64) int64 {
	switch r.Intn(6) {
	case 0:
		return 0
	case 1:
		return most
	case 2:
		return r.Int63n(min(most, 20) + 1)
	}
	return r.Int63n(most + 1)
}

// someSpan returns a span of numbers from 0 to most.
func someSpan(r *rand.Rand, most int64) api.Span {
	a, b := amount(r, most), amount(r, most)
	return span(min(a, b), max(a, b))
}

// someTree returns a cable of up to n nodes: like a chain, a star or a tree.
func someTree(r *rand.Rand, n int) api.Cable {
	var parents []int
	shape := r.Intn(3)
	for k := range r.Intn(n) {
		switch shape {
		case 0:
			parents = append(parents, max(0, k-r.Intn(2)))
		default:
			parents = append(parents, r.Intn(k+1))
		}
	}
	return bare(parents...)
}

// someCable returns a cable with random loads, resistances and breakers.
func someCable(r *rand.Rand, n int) api.Cable {
	c := someTree(r, n)
	amps, ohms, volts := int64(400), int64(3000), int64(20000)
	if r.Intn(4) == 0 {
		amps, ohms, volts = api.MaxAmps, api.MaxOhms, api.MaxVolts
	}
	c.Supply = someSpan(r, volts)
	for k := range c.Nodes {
		x := &c.Nodes[k]
		x.Limit, x.Load, x.Least = amount(r, 5*amps), someSpan(r, amps), amount(r, volts)
		if k > 0 {
			x.Ohms = someSpan(r, ohms)
		}
		if k > 0 && r.Intn(3) > 0 {
			x.Delay = r.Int63n(8)
		}
	}
	return c
}

// narrower returns a span in another one.
func narrower(r *rand.Rand, a api.Span) api.Span {
	lo := a.Lo + amount(r, a.Hi-a.Lo)
	return span(lo, lo+amount(r, a.Hi-lo))
}

// The chapter's definitions, as they are written: in exact fractions, and with
// a look at the whole path of every node.

// pathOf returns the path of a node.
func pathOf(c api.Cable, k int) []int {
	l := []int{k}
	for l[len(l)-1] != 0 {
		l = append(l, c.Nodes[l[len(l)-1]].Parent)
	}
	return l
}

// subtreeOf returns the nodes that have a node in their path.
func subtreeOf(c api.Cable, k int) []int {
	var l []int
	for j := range c.Nodes {
		if slices.Contains(pathOf(c, j), k) {
			l = append(l, j)
		}
	}
	return l
}

// currentOf returns the sum of the loads of the subtree of a node.
func currentOf(c api.Cable, k int) api.Span {
	var s api.Span
	for _, j := range subtreeOf(c, k) {
		s.Lo += c.Nodes[j].Load.Lo
		s.Hi += c.Nodes[j].Load.Hi
	}
	return s
}

// voltageOf returns the voltage at a node.
func voltageOf(c api.Cable, k int) api.Span {
	if k == 0 {
		return c.Supply
	}
	above, current, n := voltageOf(c, c.Nodes[k].Parent), currentOf(c, k), c.Nodes[k]
	d := rounded(big.NewRat(current.Lo*n.Ohms.Lo, 1000), big.NewRat(current.Hi*n.Ohms.Hi, 1000))
	return span(above.Lo-d.Hi, above.Hi-d.Lo)
}

// carriedBy returns what a segment carries of the currents of all nodes.
func carriedBy(c api.Cable, amps []int64, k int) int64 {
	sum := int64(0)
	for _, j := range subtreeOf(c, k) {
		sum += amps[j]
	}
	return sum
}

// opensAt returns the node of the breaker that opens after a fault, and whether
// one does.
func opensAt(c api.Cable, fault int, stuck []int) (int, bool) {
	var l []int
	for _, k := range pathOf(c, fault) {
		if c.Nodes[k].Delay != api.NoBreaker && !slices.Contains(stuck, k) {
			l = append(l, k)
		}
	}
	if len(l) == 0 {
		return 0, false
	}
	return slices.MinFunc(l, func(a, b int) int { return int(c.Nodes[a].Delay - c.Nodes[b].Delay) }), true
}

// lostAfter returns for each node whether it is lost after faults.
func lostAfter(c api.Cable, faults, stuck []int) []bool {
	lost := make([]bool, len(c.Nodes))
	for _, f := range faults {
		if lost[f] {
			continue
		}
		top, _ := opensAt(c, f, stuck)
		for _, k := range subtreeOf(c, top) {
			lost[k] = true
		}
	}
	return lost
}

// indexes returns where a list is true.
func indexes(l []bool) []int {
	var is []int
	for k, x := range l {
		if x {
			is = append(is, k)
		}
	}
	return is
}

// rounded returns the span from x to y, rounded outward.
func rounded(x, y *big.Rat) api.Span {
	lo, hi := floor(x), floor(new(big.Rat).Neg(y))
	return span(lo.Int64(), -hi.Int64())
}

// floor rounds down: the quotient of big.Int's Div is, for a divisor above 0.
func floor(x *big.Rat) *big.Int { return new(big.Int).Div(x.Num(), x.Denom()) }

// inside tells whether a number is in a span.
func inside(a api.Span, x *big.Rat) bool {
	return x.Cmp(big.NewRat(a.Lo, 1)) >= 0 && x.Cmp(big.NewRat(a.Hi, 1)) <= 0
}

// pick returns a number of a span: one of its ends, or one between them.
func pick(r *rand.Rand, a api.Span) *big.Rat {
	d := 1 + r.Int63n(7)
	part := big.NewRat(r.Int63n(d+1), d)
	part.Mul(part, big.NewRat(a.Hi-a.Lo, 1))
	return part.Add(part, big.NewRat(a.Lo, 1))
}

// same compares a list that a function returns, and its error, with those that
// are wanted.
func same[T comparable](t *testing.T, name any, got []T, e api.Errno, want []T, wantErr api.Errno) {
	t.Helper()
	if !slices.Equal(got, want) || e != wantErr {
		t.Fatalf("%v: %v, %v; want %v, %v", name, got, e, want, wantErr)
	}
}
