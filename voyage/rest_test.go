package voyage_test

import (
	"math/rand"
	"testing"

	"isobath/api"
	"isobath/voyage"
)

// left compares the rest of an order with what is wanted.
func left(t *testing.T, name any, p problem, order []int, now int64, want int, ship api.Ship, wantErr api.Errno) {
	t.Helper()
	n, s, e := voyage.Rest(p.c, p.s, p.l, order, now)
	same(t, name, n, e, want, wantErr)
	equalShip(t, name, s, ship)
}

// ship returns the ship of the examples for the rest of an order.
func ship(from int, start, wire int64) api.Ship {
	s := example().s
	s.From, s.Start, s.Wire = from, start, wire
	return s
}

// P9.8: the chapter's example, and all other times.
func TestRest(t *testing.T) {
	p := example()
	for _, x := range []struct {
		order []int
		now   int64
		want  int
		s     api.Ship
	}{
		{[]int{0, 1}, 120, 1, ship(1, 160, 60)},
		{[]int{0, 1}, 0, 0, ship(0, 0, 100)},
		{[]int{0, 1}, 100, 0, ship(0, 100, 100)},
		{[]int{0, 1}, 101, 1, ship(1, 160, 60)},
		{[]int{0, 1}, 160, 1, ship(1, 160, 60)},
		{[]int{0, 1}, 161, 1, ship(1, 161, 60)},
		{[]int{0, 1}, 310, 1, ship(1, 310, 60)},
		{[]int{0, 1}, 311, 2, ship(2, 410, 20)},
		{[]int{0, 1}, 999, 2, ship(2, 999, 20)},
		{[]int{0, 1}, 1000, 2, ship(2, 1000, 20)},
		{[]int{0, 1}, 1001, 2, ship(2, 1000, 20)},
		{[]int{0, 1}, minutes, 2, ship(2, 1000, 20)},
		{nil, 7, 0, ship(0, 7, 100)},
		{nil, minutes, 0, ship(0, 1000, 100)},
	} {
		left(t, x.now, p, x.order, x.now, x.want, x.s, api.OK)
	}
	for _, now := range []int64{-1, minutes + 1} {
		left(t, now, p, []int{0, 1}, now, 0, api.Ship{}, api.ErrRange)
	}
	left(t, "0 2", p, []int{0, 2}, 9, 0, api.Ship{}, api.ErrLimit)
	left(t, "0 2", p, []int{0, 2}, -1, 0, api.Ship{}, api.ErrLimit)
	left(t, "3", p, []int{3}, 9, 0, api.Ship{}, api.ErrRange)
	left(t, "twice", p, []int{0, 0}, 9, 0, api.Ship{}, api.ErrHave)
	left(t, "many", p, make([]int, 33), 9, 0, api.Ship{}, api.ErrMany)
}

// P9.8: the ship does not start earlier than it would, and several jobs may
// begin at the same time.
func TestRestAtOnce(t *testing.T) {
	p := free(4)
	p.s.Start, p.s.Wire = 50, 9
	for i := range p.l {
		p.l[i].Wire = 1 << i >> 1
	}
	p.l[2].Minutes = 5
	s := p.s
	order := []int{3, 2, 1, 0}
	left(t, "before", p, order, 20, 0, s, api.OK)
	left(t, "at the start", p, order, 50, 0, s, api.OK)
	s.Start, s.Wire = 55, 3
	left(t, "after it", p, order, 51, 2, s, api.OK)
	left(t, "at the others", p, order, 55, 2, s, api.OK)
	s.Start, s.Wire = 56, 2
	left(t, "after all", p, order, 56, 4, s, api.OK)
}

// P9.8 and P9.13: of random orders; the jobs that have not begun are a possible
// order for the ship, as long as it is not needed before.
func TestRestRandom(t *testing.T) {
	r := rand.New(rand.NewSource(13))
	rests := 0
	for range 20000 {
		p := someProblem(r)
		order, found := p.possible(r)
		if !found {
			continue
		}
		begins, home, _ := p.times(order)
		now := r.Int63n(home + 10)
		if len(order) > 0 && r.Intn(2) == 0 {
			now = begins[r.Intn(len(order))] + 1
		}
		want, s, free := 0, p.s, p.s.Start
		for k, i := range order {
			if begins[k] < now {
				want, free = k+1, begins[k]+p.l[i].Minutes
				s.From = p.l[i].Site
				s.Wire -= p.l[i].Wire
			}
		}
		s.Start = min(max(free, now), s.End)
		left(t, p, p, order, now, want, s, api.OK)
		if now > free {
			continue
		}
		if _, _, e := voyage.Times(p.c, s, p.l, order[want:]); e != api.OK {
			t.Fatal(p, order, now, s, e)
		}
		if want > 0 && want < len(order) {
			rests++
		}
	}
	if rests < 200 {
		t.Error("few rests:", rests)
	}
}

// P9.13: the rest of a voyage can be planned anew, and is not worse than before.
func TestRestAnew(t *testing.T) {
	r := rand.New(rand.NewSource(14))
	for range 2000 {
		p := someProblem(r)
		order, found := p.possible(r)
		if !found {
			continue
		}
		begins, _, _ := p.times(order)
		for k, i := range order {
			if p.l[i].Minutes == 0 {
				continue
			}
			now := begins[k] + 1
			n, s, e := voyage.Rest(p.c, p.s, p.l, order, now)
			if e != api.OK || n != k+1 {
				t.Fatal(p, order, now, n, e)
			}
			var rest []api.Job
			for _, i := range order[n:] {
				rest = append(rest, p.l[i])
			}
			_, value, e := voyage.Best(p.c, s, rest)
			if e != api.OK || value != p.value(order[n:]) {
				t.Fatal(p, order, now, n, s, value, e)
			}
		}
	}
}
