package cable_test

import (
	"math"
	"math/rand"
	"slices"
	"testing"

	"isobath/api"
	"isobath/cable"
)

// P4.5 and P4.6: the chapter's examples.
func TestExamplesOfBreakers(t *testing.T) {
	for _, x := range []struct {
		fault int
		stuck []int
		want  int
	}{{2, nil, 2}, {3, nil, 1}, {2, []int{2}, 1}} {
		if k, e := cable.Opens(example(), x.fault, x.stuck); k != x.want || e != api.OK {
			t.Error(x, k, e)
		}
	}
	l, e := cable.Lost(example(), []int{2, 3}, nil)
	same(t, "lost", l, e, []int{1, 2, 3}, api.OK)
	if k, j, e := cable.Coordinated(example(), 20); k != 0 || j != 0 || e != api.OK {
		t.Error(k, j, e)
	}
	if k, j, e := cable.Coordinated(example(), 21); k != 2 || j != 1 || e != api.ErrTrip {
		t.Error(k, j, e)
	}
}

// P4.5: the least delay, the first one of the path, and none.
func TestOpens(t *testing.T) {
	row := func(delays ...int64) api.Cable { return delayed(chain(5), delays...) }
	for i, x := range []struct {
		c     api.Cable
		fault int
		stuck []int
		want  int
		e     api.Errno
	}{
		{row(5, 5, 5, 5), 4, nil, 4, api.OK},
		{row(5, 5, 5, 5), 4, []int{4}, 3, api.OK},
		{row(5, 5, 5, 5), 2, nil, 2, api.OK},
		{row(1, 2, 3, 4), 4, nil, 1, api.OK},
		{row(1, 2, 3, 4), 4, []int{1}, 2, api.OK},
		{row(1, 2, 3, 4), 4, []int{1, 2}, 3, api.OK},
		{row(4, 2, 3, 2), 4, nil, 4, api.OK},
		{row(4, 2, 3, 2), 3, nil, 2, api.OK},
		{row(0, 0, -1, -1), 4, nil, 2, api.OK},
		{row(1<<20, 1<<20, -1, -1), 4, []int{2}, 1, api.OK},
		{row(1<<20, 0, -1, -1), 4, nil, 2, api.OK},
		{row(1, 2, 3, 4), 4, []int{1, 2, 3, 4}, 0, api.ErrNone},
		{row(1, 2, 3, 4), 1, []int{4, 1}, 0, api.ErrNone},
		{row(-1, -1, -1, 4), 3, nil, 0, api.ErrNone},
		{row(-1, -1, -1, 4), 4, []int{4, 4, 4}, 0, api.ErrNone},
		{row(-1, -1, -1, -1), 4, nil, 0, api.ErrNone},
		{delayed(bare(0, 0, 1, 2), 9, 1, 7, 8), 3, nil, 3, api.OK},
		{delayed(bare(0, 0, 1, 2), 9, 1, 7, 8), 4, nil, 2, api.OK},
		{delayed(bare(0, 0, 1, 2), 9, 1, 7, 8), 1, nil, 1, api.OK},
	} {
		if k, e := cable.Opens(x.c, x.fault, x.stuck); k != x.want || e != x.e {
			t.Error(i, k, e)
		}
	}
}

// P4.5: what is lost after one fault, after several, and after none.
func TestLost(t *testing.T) {
	all := []int{0, 1, 2, 3, 4, 5, 6}
	// 1 has no breaker; 4 and 5 hang on 2, and 6 on 3.
	c := delayed(bare(0, 0, 1, 2, 2, 3), -1, 20, 30, 10, 25, -1)
	for _, x := range []struct {
		name          string
		faults, stuck []int
		want          []int
	}{
		{"nil", nil, nil, nil},
		{"none", []int{}, []int{}, nil},
		{"none, but stuck", nil, []int{2}, nil},
		{"its own", []int{4}, nil, []int{4}},
		{"the earlier one above", []int{5}, nil, []int{2, 4, 5}},
		{"stuck", []int{4}, []int{4}, []int{2, 4, 5}},
		{"no breaker", []int{1}, nil, all},
		{"all stuck", []int{4}, []int{2, 4}, all},
		{"the one above", []int{6}, nil, []int{3, 6}},
		{"two", []int{6, 4}, nil, []int{3, 4, 6}},
		{"two that overlap", []int{4, 5}, nil, []int{2, 4, 5}},
		{"lost already", []int{5, 4}, []int{4}, []int{2, 4, 5}},
		{"the same again", []int{4, 4, 4}, nil, []int{4}},
		{"all, and again", []int{1, 6}, nil, all},
		{"some, then all", []int{6, 1}, nil, all},
	} {
		l, e := cable.Lost(c, x.faults, x.stuck)
		same(t, x.name, l, e, x.want, api.OK)
	}
}

// manyBreakers returns a cable with a breaker at each of 40 nodes.
func manyBreakers() api.Cable {
	c := bare(make([]int, 40)...)
	for k := range 40 {
		c.Nodes[k+1].Delay = 3
	}
	return c
}

// P4.5: how many stuck breakers and faults there may be, and which ones.
func TestBreakerErrors(t *testing.T) {
	c := manyBreakers()
	try := func(stuck []int, want api.Errno) {
		t.Helper()
		k, e := cable.Opens(c, 40, stuck)
		if l, f := cable.Lost(c, []int{40}, stuck); e != want || f != want || want != api.OK && (k != 0 || len(l) != 0) {
			t.Error(stuck, k, e, l, f)
		}
	}
	var stuck []int
	for k := range 17 {
		stuck = append(stuck, k+1)
	}
	try(stuck[:16], api.OK)
	try(stuck, api.ErrMany)
	try(slices.Repeat([]int{5}, 16), api.OK)
	try(slices.Repeat([]int{5}, 17), api.ErrMany)
	try(slices.Repeat([]int{-1}, 17), api.ErrMany)
	c.Nodes[7].Delay = api.NoBreaker
	for _, k := range []int{math.MinInt, -1, 0, 7, 41, 60, math.MaxInt} {
		try([]int{k}, api.ErrArg)
		try([]int{1, 2, k}, api.ErrArg)
	}
	for _, f := range []int{math.MinInt, -1, 0, 41, 60, math.MaxInt} {
		if k, e := cable.Opens(c, f, nil); k != 0 || e != api.ErrRange {
			t.Error(f, k, e)
		}
		for _, faults := range [][]int{{f}, {1, 2, f}, {f, 1}} {
			l, e := cable.Lost(c, faults, nil)
			same(t, faults, l, e, nil, api.ErrRange)
		}
	}
	l, e := cable.Lost(c, slices.Repeat([]int{9}, 60), nil)
	same(t, "60 faults", l, e, []int{9}, api.OK)
	l, e = cable.Lost(c, slices.Repeat([]int{9}, 61), nil)
	same(t, "61 faults", l, e, nil, api.ErrMany)
	l, e = cable.Lost(c, slices.Repeat([]int{-9}, 61), nil)
	same(t, "61 faults in no segment", l, e, nil, api.ErrMany)
}

// P4.6: which two breakers are named, at which margin.
func TestCoordinated(t *testing.T) {
	for i, x := range []struct {
		c      api.Cable
		margin int64
		k, j   int
		e      api.Errno
	}{
		{delayed(chain(4), 30, 20, 10), 10, 0, 0, api.OK},
		{delayed(chain(4), 30, 20, 10), 11, 2, 1, api.ErrTrip},
		{delayed(chain(4), 31, 20, 10), 11, 3, 2, api.ErrTrip},
		{delayed(chain(4), 5, 5, 5), 0, 0, 0, api.OK},
		{delayed(chain(4), 5, 5, 5), 1, 2, 1, api.ErrTrip},
		{delayed(chain(4), 30, -1, 10), 20, 0, 0, api.OK},
		{delayed(chain(4), 30, -1, 10), 21, 3, 1, api.ErrTrip},
		{delayed(chain(4), 5, -1, 10), 0, 3, 1, api.ErrTrip},
		// Both 1 and 3 are too early for 4: 3 comes first in its path.
		{delayed(chain(5), 5, -1, 5, 10), 0, 4, 3, api.ErrTrip},
		{delayed(chain(5), 5, -1, 50, 10), 0, 3, 1, api.ErrTrip},
		{delayed(chain(5), 20, -1, 11, 10), 2, 4, 3, api.ErrTrip},
		{delayed(bare(0, 1, 1), 30, 10, 25), 6, 3, 1, api.ErrTrip},
		{delayed(bare(0, 0), 10, 10), 1 << 20, 0, 0, api.OK},
		{delayed(chain(3), 1<<20, 0), 1 << 20, 0, 0, api.OK},
		{delayed(chain(3), 1<<20, 1), 1 << 20, 2, 1, api.ErrTrip},
		{chain(60), 1 << 20, 0, 0, api.OK},
		{chain(1), 1, 0, 0, api.OK},
		{greatest(), 0, 0, 0, api.OK},
		{greatest(), 1, 2, 1, api.ErrTrip},
	} {
		if k, j, e := cable.Coordinated(x.c, x.margin); k != x.k || j != x.j || e != x.e {
			t.Error(i, k, j, e)
		}
	}
	for _, margin := range append(wildNumbers(), -1, 1<<20+1) {
		for _, c := range []api.Cable{example(), greatest()} {
			if k, j, e := cable.Coordinated(c, margin); k != 0 || j != 0 || e != api.ErrRange {
				t.Error(margin, k, j, e)
			}
		}
	}
}

// breakersOf returns the nodes of a list that have a breaker.
func breakersOf(c api.Cable, l []int) []int {
	return slices.DeleteFunc(slices.Clone(l), func(k int) bool { return c.Nodes[k].Delay == api.NoBreaker })
}

// someStuck returns breakers of a cable that are stuck.
func someStuck(r *rand.Rand, c api.Cable) []int {
	var l []int
	for _, k := range breakersOf(c, subtreeOf(c, 0)) {
		if r.Intn(4) == 0 && len(l) < 16 {
			l = append(l, k)
		}
	}
	return l
}

// someFaults returns segments of a cable of at least two nodes.
func someFaults(r *rand.Rand, c api.Cable) []int {
	var l []int
	for range r.Intn(5) {
		l = append(l, 1+r.Intn(len(c.Nodes)-1))
	}
	return l
}

// P4.5, P4.6 and P4.12: random cables, by the definitions; one more fault never
// makes fewer nodes lost, and with each node its subtree is lost.
func TestBreakers(t *testing.T) {
	r := rand.New(rand.NewSource(8))
	for range 2000 {
		c := someCable(r, 14)
		if len(c.Nodes) == 1 {
			continue
		}
		stuck, faults := someStuck(r, c), someFaults(r, c)
		for f := 1; f < len(c.Nodes); f++ {
			want, found := opensAt(c, f, stuck)
			if k, e := cable.Opens(c, f, stuck); k != want || found != (e == api.OK) || !found && e != api.ErrNone {
				t.Fatal(c, f, stuck, k, e)
			}
		}
		l, e := cable.Lost(c, faults, stuck)
		same(t, c, l, e, indexes(lostAfter(c, faults, stuck)), api.OK)
		more, _ := cable.Lost(c, append(faults, 1+r.Intn(len(c.Nodes)-1)), stuck)
		for _, k := range l {
			if !slices.Contains(more, k) {
				t.Fatal(c, faults, stuck, l, more)
			}
			for _, j := range subtreeOf(c, k) {
				if !slices.Contains(l, j) {
					t.Fatal(c, faults, stuck, l, k, j)
				}
			}
		}
		margin := r.Int63n(5)
		wk, wj, we := uncoordinated(c, margin)
		if k, j, e := cable.Coordinated(c, margin); k != wk || j != wj || e != we {
			t.Fatal(c, margin, k, j, e)
		}
	}
}

// uncoordinated returns what Coordinated returns, by the definition.
func uncoordinated(c api.Cable, margin int64) (int, int, api.Errno) {
	for k := range c.Nodes {
		for _, j := range breakersOf(c, pathOf(c, k)) {
			if c.Nodes[k].Delay != api.NoBreaker && j != k && c.Nodes[j].Delay < c.Nodes[k].Delay+margin {
				return k, j, api.ErrTrip
			}
		}
	}
	return 0, 0, api.OK
}

// someCoordinated returns a cable of at least two nodes that is coordinated with
// a margin of at least 1.
func someCoordinated(r *rand.Rand, t *testing.T) api.Cable {
	c := someTree(r, 14)
	if len(c.Nodes) == 1 {
		c = chain(2)
	}
	margin := 1 + r.Int63n(3)
	for k := len(c.Nodes) - 1; k > 0; k-- {
		if r.Intn(4) == 0 {
			continue
		}
		least := int64(-margin)
		for _, j := range breakersOf(c, subtreeOf(c, k)) {
			least = max(least, c.Nodes[j].Delay)
		}
		c.Nodes[k].Delay = least + margin + r.Int63n(3)
	}
	if k, j, e := cable.Coordinated(c, margin); k != 0 || j != 0 || e != api.OK {
		t.Fatal(c, margin, k, j, e)
	}
	return c
}

// P4.11 and G3: on a coordinated cable the first breaker of the path opens, and
// only its branch is lost; if it is stuck, the next one opens.
func TestOnlyItsOwnBranch(t *testing.T) {
	r := rand.New(rand.NewSource(9))
	for range 1000 {
		c := someCoordinated(r, t)
		for f := 1; f < len(c.Nodes); f++ {
			path := breakersOf(c, pathOf(c, f))
			for i := range min(len(path), 16) {
				stuck := path[:i]
				if k, e := cable.Opens(c, f, stuck); k != path[i] || e != api.OK {
					t.Fatal(c, f, stuck, k, e)
				}
				l, e := cable.Lost(c, []int{f}, stuck)
				same(t, c, l, e, subtreeOf(c, path[i]), api.OK)
			}
			if len(path) > 16 {
				continue
			}
			if k, e := cable.Opens(c, f, path); k != 0 || e != api.ErrNone {
				t.Fatal(c, f, path, k, e)
			}
			l, e := cable.Lost(c, []int{f}, path)
			same(t, c, l, e, subtreeOf(c, 0), api.OK)
		}
	}
}

// P4.12: on a coordinated cable the order of the faults does not matter.
func TestOrderOfFaults(t *testing.T) {
	r := rand.New(rand.NewSource(10))
	for range 1000 {
		c := someCoordinated(r, t)
		stuck, faults := someStuck(r, c), someFaults(r, c)
		former, e := cable.Lost(c, faults, stuck)
		for range 4 {
			r.Shuffle(len(faults), func(i, j int) { faults[i], faults[j] = faults[j], faults[i] })
			l, f := cable.Lost(c, faults, stuck)
			same(t, c, l, f, former, e)
		}
	}
}
