package cable_test

import (
	"math"
	"math/rand"
	"slices"
	"testing"

	"isobath/api"
	"isobath/cable"
)

// limited returns a cable with these parents, and these limits of all nodes.
func limited(parents []int, limits ...int64) api.Cable {
	c := bare(parents...)
	for k, x := range limits {
		c.Nodes[k].Limit = x
	}
	return c
}

// P4.4: the chapter's example.
func TestExampleOfShares(t *testing.T) {
	l, e := cable.Share(example(), []int64{0, 200, 300, 200}, []int{0, 1, 2, 3})
	same(t, "share", l, e, []int64{0, 0, 300, 200}, api.OK)
}

// P4.4: who is taken first, and what limits a grant.
func TestShare(t *testing.T) {
	star := []int{0, 0, 0}
	for _, x := range []struct {
		name     string
		c        api.Cable
		requests []int64
		ranks    []int
		want     []int64
	}{
		{name: "enough", c: limited(star, 60, 10, 20, 30), requests: []int64{0, 10, 20, 30}, ranks: []int{0, 0, 0, 0}, want: []int64{0, 10, 20, 30}},
		{name: "by rank", c: limited(star, 25, 90, 90, 90), requests: []int64{0, 10, 20, 30}, ranks: []int{9, 2, 1, 3}, want: []int64{0, 0, 0, 25}},
		{name: "the second by rank", c: limited(star, 35, 90, 90, 90), requests: []int64{0, 10, 20, 30}, ranks: []int{0, 1, 2, 3}, want: []int64{0, 0, 5, 30}},
		{name: "by index", c: limited(star, 25, 90, 90, 90), requests: []int64{0, 10, 20, 30}, ranks: []int{7, 7, 7, 7}, want: []int64{0, 10, 15, 0}},
		{name: "the shore end draws first", c: limited(star, 25, 90, 90, 90), requests: []int64{20, 10, 20, 30}, ranks: []int{0, 0, 0, 0}, want: []int64{20, 5, 0, 0}},
		{name: "the shore end draws last", c: limited(star, 25, 90, 90, 90), requests: []int64{20, 10, 0, 0}, ranks: []int{-1, 0, 0, 0}, want: []int64{15, 10, 0, 0}},
		{name: "its own segment", c: limited(star, 90, 0, 19, 30), requests: []int64{0, 10, 20, 30}, ranks: []int{0, 0, 0, 0}, want: []int64{0, 0, 19, 30}},
		{name: "a segment between", c: limited([]int{0, 1, 2, 1}, 90, 80, 12, 70, 60), requests: []int64{0, 5, 6, 7, 8}, ranks: []int{0, 0, 0, 0, 0}, want: []int64{0, 5, 6, 6, 8}},
		{name: "no limit", c: limited(star, 0, 0, 0, 0), requests: []int64{9, 9, 9, 9}, ranks: []int{0, 0, 0, 0}, want: []int64{0, 0, 0, 0}},
		{name: "ranks at their limits", c: limited(star, 25, 90, 90, 90), requests: []int64{0, 20, 20, 20}, ranks: []int{0, math.MinInt, math.MaxInt, 1}, want: []int64{0, 0, 20, 5}},
		{name: "requests at their limit", c: limited(star, 2<<16, 2<<16, 2<<16, 2<<16), requests: []int64{0, 1 << 16, 1 << 16, 1 << 16}, ranks: []int{0, 0, 0, 0}, want: []int64{0, 1 << 16, 1 << 16, 0}},
	} {
		l, e := cable.Share(x.c, x.requests, x.ranks)
		same(t, x.name, l, e, x.want, api.OK)
	}
}

// P4.4: loads do not matter for shares.
func TestLoadsDoNotMatter(t *testing.T) {
	c := example()
	for k := range c.Nodes {
		c.Nodes[k].Load = exactly(api.MaxAmps)
	}
	l, e := cable.Share(c, []int64{0, 200, 300, 200}, []int{0, 1, 2, 3})
	same(t, "share", l, e, []int64{0, 0, 300, 200}, api.OK)
	if k, e := cable.CheckShare(c, l); k != 0 || e != api.OK {
		t.Error(k, e)
	}
}

// P4.4: the least segment that carries more than its limit.
func TestCheckShare(t *testing.T) {
	for _, x := range []struct {
		grants []int64
		k      int
		e      api.Errno
	}{
		{[]int64{0, 0, 0, 0}, 0, api.OK},
		{[]int64{500, 0, 300, 200}, 0, api.OK},
		{[]int64{501, 0, 300, 200}, 0, api.ErrTrip},
		{[]int64{0, 1, 300, 200}, 1, api.ErrTrip},
		{[]int64{0, 0, 301, 0}, 2, api.ErrTrip},
		{[]int64{0, 0, 0, 301}, 3, api.ErrTrip},
		{[]int64{0, 0, 301, 301}, 1, api.ErrTrip},
		{[]int64{1001, 0, 0, 301}, 0, api.ErrTrip},
		{[]int64{0, 501, 0, 0}, 1, api.ErrTrip},
		{[]int64{1 << 16, 1 << 16, 1 << 16, 1 << 16}, 0, api.ErrTrip},
	} {
		if k, e := cable.CheckShare(example(), x.grants); k != x.k || e != x.e {
			t.Error(x, k, e)
		}
	}
	all := slices.Repeat([]int64{1 << 16}, 60)
	if k, e := cable.CheckShare(greatest(), all); k != 0 || e != api.OK {
		t.Error(k, e)
	}
	c := greatest()
	c.Nodes[7].Limit = 53<<16 - 1
	if k, e := cable.CheckShare(c, all); k != 7 || e != api.ErrTrip {
		t.Error(k, e)
	}
}

// P4.4: lists that are not as long as the cable, and numbers beyond the limits.
func TestShareErrors(t *testing.T) {
	c, good, ranks := example(), []int64{0, 1, 2, 3}, []int{0, 1, 2, 3}
	for _, n := range []int{0, 3, 5} {
		l, e := cable.Share(c, make([]int64, n), ranks)
		same(t, "requests", l, e, nil, api.ErrEqual)
		l, e = cable.Share(c, good, make([]int, n))
		same(t, "ranks", l, e, nil, api.ErrEqual)
		if k, e := cable.CheckShare(c, make([]int64, n)); k != 0 || e != api.ErrEqual {
			t.Error(n, k, e)
		}
	}
	l, e := cable.Share(c, nil, nil)
	same(t, "nil", l, e, nil, api.ErrEqual)
	if k, e := cable.CheckShare(c, nil); k != 0 || e != api.ErrEqual {
		t.Error(k, e)
	}
	for i := range good {
		for _, x := range append(wildNumbers(), -1, 1<<16+1) {
			bad := slices.Clone(good)
			bad[i] = x
			l, e := cable.Share(c, bad, ranks)
			same(t, x, l, e, nil, api.ErrRange)
			if k, e := cable.CheckShare(c, bad); k != 0 || e != api.ErrRange {
				t.Error(i, x, k, e)
			}
		}
	}
	// A current that is not valid comes before a segment with too much.
	if k, e := cable.CheckShare(c, []int64{0, 501, 0, -1}); k != 0 || e != api.ErrRange {
		t.Error(k, e)
	}
}

// fits tells whether no segment of a path carries more than its limit.
func fits(c api.Cable, grants []int64, k int) bool {
	for _, j := range pathOf(c, k) {
		if carriedBy(c, grants, j) > c.Nodes[j].Limit {
			return false
		}
	}
	return true
}

// shared returns the grants, found by trying each current from the request down.
func shared(c api.Cable, requests []int64, ranks []int) []int64 {
	grants := make([]int64, len(requests))
	for _, k := range taken(ranks) {
		grants[k] = requests[k]
		for !fits(c, grants, k) {
			grants[k]--
		}
	}
	return grants
}

// taken returns the nodes in the order in which they are taken.
func taken(ranks []int) []int {
	var l []int
	for len(l) < len(ranks) {
		next := -1
		for k, rank := range ranks {
			if !slices.Contains(l, k) && (next < 0 || rank > ranks[next]) {
				next = k
			}
		}
		l = append(l, next)
	}
	return l
}

// someShare returns a cable with small limits, requests and ranks.
func someShare(r *rand.Rand) (api.Cable, []int64, []int) {
	c := someTree(r, 12)
	var requests []int64
	var ranks []int
	for k := range c.Nodes {
		c.Nodes[k].Limit = r.Int63n(14)
		requests, ranks = append(requests, r.Int63n(8)), append(ranks, r.Intn(4)-1)
	}
	c.Nodes[0].Limit += r.Int63n(30)
	return c, requests, ranks
}

// P4.4 and P4.10: random shares, by the definition and with the properties.
func TestNoOverload(t *testing.T) {
	r := rand.New(rand.NewSource(6))
	for range 2000 {
		c, requests, ranks := someShare(r)
		grants, e := cable.Share(c, requests, ranks)
		same(t, c, grants, e, shared(c, requests, ranks), api.OK)
		if k, e := cable.CheckShare(c, grants); k != 0 || e != api.OK {
			t.Fatal(c, grants, k, e)
		}
		for k := range grants {
			full := slices.ContainsFunc(pathOf(c, k), func(j int) bool { return carriedBy(c, grants, j) == c.Nodes[j].Limit })
			if grants[k] > requests[k] || grants[k] < requests[k] && !full {
				t.Fatal(c, requests, grants, k)
			}
		}
		order := taken(ranks)
		i := r.Intn(len(order))
		for _, k := range order[i+1:] {
			requests[k] = r.Int63n(8)
		}
		others, e := cable.Share(c, requests, ranks)
		for _, k := range order[:i+1] {
			if e != api.OK || others[k] != grants[k] {
				t.Fatal(c, requests, k, grants, others)
			}
		}
	}
}

// P4.4: random grants, by the definition.
func TestTrips(t *testing.T) {
	r := rand.New(rand.NewSource(7))
	trips := 0
	for range 2000 {
		c, grants, _ := someShare(r)
		for k := range grants {
			grants[k] = r.Int63n(3)
		}
		want, e := 0, api.OK
		for k := len(grants) - 1; k >= 0; k-- {
			if carriedBy(c, grants, k) > c.Nodes[k].Limit {
				want, e = k, api.ErrTrip
			}
		}
		if k, f := cable.CheckShare(c, grants); k != want || f != e {
			t.Fatal(c, grants, k, f)
		}
		trips += int(e) / int(api.ErrTrip)
	}
	if trips < 200 || trips > 1800 {
		t.Error(trips, "of 2000 trip")
	}
}
