package house_test

import (
	"math"
	"math/rand"
	"slices"
	"testing"

	"isobath/api"
	"isobath/house"
)

// noHouses returns houses that are not valid: a struct that was copied is not what New
// returned.
func noHouses(t *testing.T) []*house.House {
	t.Helper()
	h := built(t, example(), diary(7)...)
	copied, changed := *h, *h.Copy()
	emptied, other := h.Copy(), h.Copy()
	*emptied = house.House{}
	*other = *h
	return []*house.House{nil, {}, new(house.House), &copied, &changed, emptied, other}
}

// R4, for P12.1 to P12.5: a house that is not valid has nothing, and does nothing.
func TestNoHouse(t *testing.T) {
	for i, h := range noHouses(t) {
		for _, d := range append(everyKind(), api.Deed{}, send(-1, 0, 0, 0)) {
			does(t, h, d, api.Outcome{}, api.ErrNil)
		}
		for _, station := range []int{0, 1, -1, 9} {
			numbers, samples, e := h.Readings(station)
			equal(t, i, numbers, e, nil, api.ErrNil)
			same(t, i, len(samples), e, 0, api.ErrNil)
			values, e := h.Values(station)
			equal(t, i, values, e, nil, api.ErrNil)
		}
		l, e := h.Seen()
		equal(t, i, l, e, nil, api.ErrNil)
		for _, q := range [][]api.Part{nil, above(spot(0, 0), 5), make([]api.Part, 33)} {
			x, e := h.Ask(q)
			same(t, i, x, e, api.No, api.ErrNil)
		}
		if h.Many() != 0 || len(h.Lost()) != 0 || len(h.Waiting()) != 0 || len(h.Arrived()) != 0 || h.Copy() != nil {
			t.Error(i, h.Many(), h.Lost(), h.Waiting(), h.Arrived(), h.Copy())
		}
	}
}

// R4: what is done with a struct that was copied does not change the house.
func TestCopiedStruct(t *testing.T) {
	h := built(t, example(), diary(4)...)
	before := tells(h)
	c := *h
	for _, d := range diary(7)[4:] {
		c.Do(d)
	}
	same(t, "house", tells(h), api.OK, before, api.OK)
}

// spoil changes a list, also behind its end.
func spoil[T any](l []T) {
	clear(l)
	clear(l[:cap(l)])
}

// spoilObservatory changes the lists of an observatory.
func spoilObservatory(o api.Observatory) {
	spoil(o.Cable.Nodes)
	spoil(o.Stations)
	spoil(o.Chain)
}

// spoilDeed changes the lists of a deed.
func spoilDeed(d api.Deed) {
	spoil(d.Sample.Near)
	spoil(d.Stuck)
}

// nearby returns the observatory of the examples with a chain of all steps.
func nearby() api.Observatory {
	o := roomy()
	o.Chain = []int{api.StepNear, api.StepRaw, api.StepClimate, api.StepRate}
	return o
}

// nearbyDeeds returns deeds by which readings with neighbours arrive.
func nearbyDeeds() []api.Deed {
	return []api.Deed{
		withClimate(read(0, 1010, 25, 30, 3, 40, span(20, 40), span(21, 41)), 0, 50), withClimate(read(1, 1020, 50, 60, 9, 40, span(40, 70)), 0, 100), withClimate(read(0, 1110, 25, 30, 3, 40, span(20, 40)), 0, 50),
		check(0, 1000, 0, 1), clean(1, 1000, 0, 1), check(0, 900, 1, 2), fault(2, 2, 1), ashore(1300),
	}
}

// R5: nothing is kept of an observatory or of deeds that are changed after a call.
func TestNothingIsKept(t *testing.T) {
	want := built(t, nearby(), nearbyDeeds()...)
	last := read(1, 1200, 1, 2, 3, 4)
	q := above(spot(1, 2), 30)
	o := nearby()
	h := made(t, o)
	spoilObservatory(o)
	for _, d := range nearbyDeeds() {
		_, e := h.Do(d)
		same(t, d, e, api.OK, api.OK, api.OK)
		spoilDeed(d)
	}
	o, l := nearby(), nearbyDeeds()
	again, _, e := house.Replay(o, l)
	same(t, "Replay", again != nil, e, true, api.OK)
	spoilObservatory(o)
	for _, d := range l {
		spoilDeed(d)
	}
	for _, x := range []*house.House{h, h.Copy(), again} {
		c := want.Copy()
		same(t, "told", tells(x, q), api.OK, tells(c, q), api.OK)
		does(t, x, repair(), api.Outcome{Record: -1}, api.OK)
		does(t, x, last, api.Outcome{Record: 3}, api.OK)
		does(t, x, fault(3), api.Outcome{Record: -1, Lost: []int{1, 2, 3}}, api.OK)
		does(t, c, repair(), api.Outcome{Record: -1}, api.OK)
		does(t, c, last, api.Outcome{Record: 3}, api.OK)
		does(t, c, fault(3), api.Outcome{Record: -1, Lost: []int{1, 2, 3}}, api.OK)
		same(t, "told", tells(x, q), api.OK, tells(c, q), api.OK)
	}
}

// R5: no argument is changed, also where it is a part of a longer list.
func TestArgumentsAreKept(t *testing.T) {
	o, l := nearby(), nearbyDeeds()
	o.Chain, o.Stations, o.Cable.Nodes = o.Chain[:3], o.Stations[:2:2], append(o.Cable.Nodes, api.Node{})[:4]
	l[0].Sample.Near, l[6].Stuck = append(l[0].Sample.Near, span(7, 7))[:2], append(l[6].Stuck, 9)[:2]
	q := append(above(spot(0, 0), 5), above(spot(1, 1), 6)...)
	h, _, e := house.Replay(o, l)
	same(t, "Replay", h != nil, e, true, api.OK)
	h.Do(fault(1, 1))
	h.Ask(q[:1])
	text, e := house.Text(o, l)
	same(t, "Text", text, e, textOf(nearbyDeeds()), api.OK)
	house.Parse(o, text)
	same(t, "deeds", deedsOf(l), api.OK, deedsOf(nearbyDeeds()), api.OK)
	same(t, "chain", slices.Equal(o.Chain[:4], nearby().Chain), api.OK, true, api.OK)
	same(t, "nodes", slices.Equal(o.Cable.Nodes[:5], append(nearby().Cable.Nodes, api.Node{})), api.OK, true, api.OK)
	same(t, "stations", slices.Equal(o.Stations, nearby().Stations), api.OK, true, api.OK)
	same(t, "lists", l[0].Sample.Near[:3][2] == span(7, 7) && l[6].Stuck[:3][2] == 9, api.OK, true, api.OK)
	if q[1].A != spot(1, 1) || q[1].Limit != 6 || q[0].Limit != 5 {
		t.Error(q)
	}
}

// spoilResults changes all lists that a house returns.
func spoilResults(h *house.House) {
	spoil(h.Lost())
	spoil(h.Waiting())
	spoil(h.Arrived())
	for k := range 2 {
		numbers, samples, _ := h.Readings(k)
		for _, s := range samples {
			spoil(s.Near)
		}
		spoil(numbers)
		spoil(samples)
		values, _ := h.Values(k)
		spoil(values)
	}
	l, _ := h.Seen()
	spoil(l)
}

// R5: results share no memory with a house, a copy of it, or other results.
func TestResultsAreNew(t *testing.T) {
	for n := range len(nearbyDeeds()) + 1 {
		h := built(t, nearby(), nearbyDeeds()[:n]...)
		c, before := h.Copy(), tells(h)
		spoilResults(h)
		same(t, n, tells(h), api.OK, before, api.OK)
		same(t, n, tells(c), api.OK, before, api.OK)
		spoilResults(c)
		same(t, n, tells(h), api.OK, before, api.OK)
		same(t, n, tells(c), api.OK, before, api.OK)
	}
	h := built(t, example(), read(0, 1, 1, 2, 3, 200))
	for _, d := range []api.Deed{read(0, 2, 1, 2, 3, 4), fault(3), send(4, 0, 0, 0)} {
		x, e := h.Do(d)
		same(t, d, e, api.OK, api.OK, api.OK)
		before := tells(h)
		spoil(x.Dropped)
		spoil(x.Arrived)
		spoil(x.Lost)
		same(t, d, tells(h), api.OK, before, api.OK)
	}
	l, _ := house.Parse(example(), textOf(nearbyDeeds()))
	for i := range l {
		spoilDeed(l[i])
		for k, d := range l[i+1:] {
			same(t, i, deedsOf([]api.Deed{d}), api.OK, deedsOf(nearbyDeeds()[i+1+k:][:1]), api.OK)
		}
	}
}

// R5: two results of one call are independent of each other.
func TestResultsOfEqualCallsAreNew(t *testing.T) {
	h := built(t, nearby(), nearbyDeeds()...)
	a, b, _ := h.Readings(0)
	c, d, _ := h.Readings(0)
	spoil(a)
	spoil(b[0].Near)
	spoil(b)
	equal(t, "numbers", c, api.OK, []int64{0, 2}, api.OK)
	equal(t, "near", d[0].Near, api.OK, []api.Span{span(20, 40), span(21, 41)}, api.OK)
	v, _ := h.Values(0)
	w, _ := h.Values(0)
	first := slices.Clone(w)
	spoil(v)
	equal(t, "values", w, api.OK, first, api.OK)
	x, _ := h.Seen()
	y, _ := h.Seen()
	all := slices.Clone(y)
	spoil(x)
	equal(t, "seen", y, api.OK, all, api.OK)
}

// wild returns a number that may be anything.
func wild(r *rand.Rand) int64 {
	limits := []int64{-1, 0, 1, 2, 3, 4, 8, 9, 10, 16, 17, 32, 64, 1 << 20, 1<<20 + 1, 1 << 24, 1<<24 + 1, most, most + 1, -most, -most - 1, 1 << 32, 1 << 62, math.MinInt64, math.MinInt64 + 1, math.MaxInt64}
	switch r.Intn(3) {
	case 0:
		return int64(r.Uint64())
	case 1:
		return limits[r.Intn(len(limits))]
	}
	return r.Int63n(30)
}

// wildDeed returns a deed of which a few parts may be anything.
func wildDeed(r *rand.Rand, d api.Deed) api.Deed {
	d.Sample.Near, d.Stuck = slices.Clone(d.Sample.Near), slices.Clone(d.Stuck)
	for range r.Intn(4) {
		numbers := []*int64{&d.Sample.At, &d.Sample.Raw.Lo, &d.Sample.Raw.Hi, &d.Sample.Climate.Lo, &d.Sample.Climate.Hi, &d.Size, &d.Bytes, &d.At, &d.Wait, &d.Event.At, &d.Event.Offset.Lo, &d.Event.Offset.Hi}
		indexes := []*int{&d.Kind, &d.Station, &d.Class, &d.Segment, &d.Event.Kind}
		if i := r.Intn(len(numbers) + len(indexes)); i < len(numbers) {
			*numbers[i] = wild(r)
		} else {
			*indexes[i-len(numbers)] = int(wild(r))
		}
	}
	if r.Intn(8) == 0 {
		d.Stuck = append(d.Stuck, int(wild(r)))
	}
	if r.Intn(8) == 0 {
		d.Sample.Near = append(d.Sample.Near, span(wild(r), wild(r)))
	}
	return d
}

// P1 and R2: Do, Text and Parse end for any numbers; with an error nothing has changed.
func TestAnyDeeds(t *testing.T) {
	r := rand.New(rand.NewSource(11))
	done := 0
	for n := range 300 {
		l := sizes()[n%len(sizes())].begin(r)
		h, m := made(t, l.o), modelOf(l.o)
		for range 40 {
			d := wildDeed(r, l.deed())
			got, e := h.Do(d)
			want, wantErr := m.do(d)
			same(t, d, cameOf(got), e, cameOf(want), wantErr)
			if e == api.OK {
				done++
			}
			text, e := house.Text(l.o, []api.Deed{d})
			if e == api.OK {
				parsed(t, l.o, text, []api.Deed{d}, api.OK)
			} else {
				same(t, d, text, e, "", api.ErrArg)
			}
		}
		m.holds(t, n, h, questions(r, l.o.Field, 1)...)
		for range 5 {
			numbers, _, e := h.Readings(int(wild(r)))
			same(t, n, e == api.ErrRange && len(numbers) == 0 || e == api.OK, api.OK, true, api.OK)
		}
	}
	if done < 3000 || done > 9000 {
		t.Error(done)
	}
}

// P1: what may be anything in an observatory and in a question ends no call otherwise
// than by an error.
func TestAnyObservatories(t *testing.T) {
	r := rand.New(rand.NewSource(12))
	valid := 0
	for range 6000 {
		o := nearby()
		for range 1 + r.Intn(2) {
			numbers := []*int64{&o.Start, &o.Pace, &o.Capacity, &o.Field.Space, &o.Field.Change, &o.Field.Range.Lo, &o.Field.Range.Hi, &o.Stations[0].Drift, &o.Stations[1].Change, &o.Cable.Nodes[2].Delay, &o.Cable.Supply.Lo}
			indexes := []*int{&o.Field.Wide, &o.Field.High, &o.Field.Last, &o.Stations[0].Node, &o.Stations[1].Cell, &o.Chain[0], &o.Cable.Nodes[3].Parent}
			if i := r.Intn(len(numbers) + len(indexes)); i < len(numbers) {
				*numbers[i] = wild(r)
			} else {
				*indexes[i-len(numbers)] = int(wild(r))
			}
		}
		h, e := house.New(o)
		if e != api.OK {
			same(t, o, h == nil && house.Check(o) == e, e, true, api.ErrArg)
			continue
		}
		valid++
		m := modelOf(o)
		for _, d := range nearbyDeeds() {
			got, e := h.Do(d)
			want, wantErr := m.do(d)
			same(t, d, cameOf(got), e, cameOf(want), wantErr)
		}
		p := above(spot(int(wild(r)), int(wild(r))), wild(r))
		p[0].Kind = int(wild(r))
		m.holds(t, o, h, p, above(spot(0, 0), wild(r)))
	}
	if valid < 500 || valid > 5500 {
		t.Error(valid)
	}
}
