package house_test

import (
	"math/rand"
	"slices"
	"testing"

	"isobath/api"
	"isobath/house"
)

// P12.6: Replay does deeds one after another in a new house.
func TestReplay(t *testing.T) {
	for n := range 8 {
		h, many, e := house.Replay(example(), diary(n))
		same(t, n, many, e, n, api.OK)
		same(t, n, tells(h), api.OK, tells(built(t, example(), diary(n)...)), api.OK)
	}
	h, n, e := house.Replay(example(), diary(5))
	same(t, "Replay", n, e, 5, api.OK)
	does(t, h, fault(2), api.Outcome{Record: -1, Lost: []int{2}}, api.OK)
	does(t, h, send(100, 1210, 0, 0), api.Outcome{Record: -1, Arrived: []int64{1}}, api.OK)
	hasSeen(t, "Replay", h, seen(0, 0, 15, 35), seen(1, 2, 53, 65))
}

// P12.6: with an error there is no house, but the index of the deed.
func TestReplayOfBadDeeds(t *testing.T) {
	for _, x := range []struct {
		d    api.Deed
		want api.Errno
	}{
		{api.Deed{}, api.ErrArg}, {read(0, 1300, 1, 2, 3, 4), api.ErrTrip}, {read(1, 1150, 1, 2, 3, 4), api.ErrLate}, {read(1, 1151, 1, 2, 3, 201), api.ErrLimit},
		{send(0, 1209, 0, 0), api.ErrRange}, {check(1, 1000, 0, 0), api.ErrHave}, {fault(1, 3), api.ErrArg},
	} {
		for _, after := range [][]api.Deed{nil, {repair()}, {api.Deed{}}, diary(7)} {
			h, n, e := house.Replay(example(), append(append(diary(7), x.d), after...))
			same(t, x.d, n, e, 7, x.want)
			same(t, x.d, h == nil, e, true, x.want)
		}
	}
	h, n, e := house.Replay(example(), []api.Deed{secondRead(), secondRead(), {}})
	same(t, "late", n, e, 1, api.ErrLate)
	same(t, "late", h == nil, e, true, api.ErrLate)
	h, n, e = house.Replay(example(), []api.Deed{{}})
	same(t, "the first one", n, e, 0, api.ErrArg)
	same(t, "the first one", h == nil, e, true, api.ErrArg)
}

// P12.6: Replay returns the error of Check before those of deeds.
func TestReplayOfBadObservatories(t *testing.T) {
	for _, x := range bends() {
		o := example()
		x.change(&o)
		for _, l := range [][]api.Deed{nil, {repair()}, {repair(), {}}} {
			if !x.ok {
				h, n, e := house.Replay(o, l)
				same(t, x.name, n, e, 0, api.ErrArg)
				same(t, x.name, h == nil, e, true, api.ErrArg)
			}
		}
	}
}

// P12.6: of more than 200 deeds the first one too many is told.
func TestReplayOfManyDeeds(t *testing.T) {
	l := slices.Repeat([]api.Deed{repair()}, 202)
	h, n, e := house.Replay(example(), l[:200])
	same(t, "200", n, e, 200, api.OK)
	same(t, "200", h.Many(), e, 200, api.OK)
	for _, k := range []int{201, 202} {
		h, n, e := house.Replay(example(), l[:k])
		same(t, k, n, e, 200, api.ErrFull)
		same(t, k, h == nil, e, true, api.ErrFull)
	}
}

// P12.10: what was done and is done again, also through its text, gives a house with
// the same state, which does the same from then on.
func TestAgain(t *testing.T) {
	r := rand.New(rand.NewSource(6))
	for n := range 250 {
		l := sizes()[n%len(sizes())].begin(r)
		h, m := made(t, l.o), modelOf(l.o)
		for range r.Intn(90) {
			d := l.deed()
			h.Do(d)
			m.do(d)
		}
		q := questions(r, l.o.Field, 3)
		text, e := house.Text(l.o, m.deeds)
		same(t, n, text, e, textOf(m.deeds), api.OK)
		deeds, e := house.Parse(l.o, text)
		same(t, n, deedsOf(deeds), e, deedsOf(m.deeds), api.OK)
		again, many, e := house.Replay(l.o, m.deeds)
		same(t, n, many, e, h.Many(), api.OK)
		read, many, e := house.Replay(l.o, deeds)
		same(t, n, many, e, h.Many(), api.OK)
		for range r.Intn(20) {
			for _, x := range []*house.House{again, read} {
				same(t, n, tells(x, q...), api.OK, tells(h, q...), api.OK)
			}
			d := l.deed()
			want, wantErr := h.Do(d)
			for _, x := range []*house.House{again, read} {
				got, e := x.Do(d)
				same(t, d, cameOf(got), e, cameOf(want), wantErr)
			}
		}
	}
}
