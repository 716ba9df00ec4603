package voyage_test

import (
	"math/rand"
	"slices"
	"testing"

	"isobath/api"
	"isobath/voyage"
)

// longer compares an order that is extended with what is wanted.
func longer(t *testing.T, name any, p problem, order, want []int, wantErr api.Errno) {
	t.Helper()
	l, e := voyage.Extend(p.c, p.s, p.l, order)
	equal(t, name, l, e, want, wantErr)
}

// P9.6: the chapter's example, and errors of the order.
func TestExtend(t *testing.T) {
	p := example()
	longer(t, "2", p, []int{2}, []int{2}, api.OK)
	longer(t, "none", p, nil, []int{2}, api.OK)
	longer(t, "0", p, []int{0}, []int{0, 1}, api.OK)
	longer(t, "1", p, []int{1}, []int{0, 1}, api.OK)
	longer(t, "1 0", p, []int{1, 0}, []int{1, 0}, api.OK)
	longer(t, "0 2", p, []int{0, 2}, nil, api.ErrLimit)
	longer(t, "twice", p, []int{0, 0}, nil, api.ErrHave)
	longer(t, "no job", p, []int{3}, nil, api.ErrRange)
	longer(t, "many", p, make([]int, 33), nil, api.ErrMany)
	late := changed(func(p *problem) { p.s.End = 609 })
	longer(t, "late", late, []int{0, 1}, nil, api.ErrLate)
	none := changed(func(p *problem) { p.s.Start = 301 })
	longer(t, "no fit", none, []int{1}, nil, api.ErrNone)
	way := changed(func(p *problem) { p.s.Home, p.s.End = 2, 199 })
	longer(t, "no way home", way, nil, nil, api.ErrLate)
}

// P9.6: of several insertions the one with the greatest value is made, then the
// one after which the ship is home first, then the one with the least index, and
// then the one at the first position.
func TestExtendOrder(t *testing.T) {
	for i, x := range []struct {
		n     int
		put   func(p *problem)
		order []int
		want  []int
	}{
		{2, func(p *problem) {}, nil, []int{1, 0}},
		{3, func(p *problem) {}, []int{1}, []int{2, 0, 1}},
		{2, func(p *problem) { p.l[1].Value = 2 }, nil, []int{0, 1}},
		{2, func(p *problem) { p.l[1].Value, p.l[1].Minutes = 2, 9 }, nil, []int{0, 1}},
		{2, func(p *problem) { p.l[0].Minutes = 9 }, nil, []int{0, 1}},
		{3, func(p *problem) { p.l[1].Wire, p.l[2].Wire, p.s.Wire = 1, 1, 1 }, []int{0}, []int{1, 0}},
		{3, func(p *problem) { p.l[1].Wire, p.l[2].Wire, p.s.Wire, p.l[1].Minutes = 1, 1, 1, 3 }, []int{0}, []int{2, 0}},
		{2, func(p *problem) { p.l[1].Weather[0].Lo = 50 }, []int{0}, []int{1, 0}},
		{2, func(p *problem) { p.l[1].Weather[0].Lo, p.l[0].Minutes = 50, 9 }, []int{0}, []int{0, 1}},
		{2, func(p *problem) { p.l[1].Value = 0 }, []int{0}, []int{1, 0}},
		{2, func(p *problem) { p.l[1].Must = true }, []int{0}, []int{1, 0}},
		{2, func(p *problem) { p.l[0].Must, p.l[1].Value = true, 2 }, nil, []int{0, 1}},
	} {
		p := free(x.n)
		x.put(&p)
		longer(t, i, p, x.order, x.want, api.OK)
		equal(t, i, p.extended(x.order), api.OK, x.want, api.OK)
	}
}

// P9.6: as many jobs and windows as possible.
func TestExtendMany(t *testing.T) {
	p := free(32)
	for i := range p.l {
		p.l[i].Weather = windows(16)
	}
	var want []int
	for i := range 32 {
		want = append(want, 31-i)
	}
	longer(t, "32", p, nil, want, api.OK)
	longer(t, "32", p, want, want, api.OK)
}

// P9.6 and P9.12: an extended order has been extended as the definition says; it
// is possible, has the former jobs in the same order, and no job can be inserted.
func TestExtendRandom(t *testing.T) {
	r := rand.New(rand.NewSource(11))
	extended := 0
	for range 5000 {
		p := someProblem(r)
		order, found := p.possible(r)
		if !found {
			continue
		}
		l, e := voyage.Extend(p.c, p.s, p.l, order)
		equal(t, p, l, e, p.extended(order), api.OK)
		if _, _, e := voyage.Times(p.c, p.s, p.l, l); e != api.OK {
			t.Fatal(p, order, l, e)
		}
		former := slices.DeleteFunc(slices.Clone(l), func(i int) bool { return !slices.Contains(order, i) })
		equal(t, p, former, api.OK, order, api.OK)
		for i := range p.l {
			for at := 0; at <= len(l) && !slices.Contains(l, i); at++ {
				if _, _, e := voyage.Times(p.c, p.s, p.l, inserted(l, at, i)); e == api.OK {
					t.Fatal(p, order, l, at, i)
				}
			}
		}
		longer(t, p, p, l, l, api.OK)
		if len(l) > len(order) {
			extended++
		}
	}
	if extended < 500 {
		t.Error("few orders are extended:", extended)
	}
}
