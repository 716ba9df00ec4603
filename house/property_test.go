package house_test

import (
	"fmt"
	"math/rand"
	"slices"
	"testing"

	"isobath/api"
	"isobath/buffer"
	"isobath/field"
	"isobath/house"
)

// waitingIDs returns the numbers of the readings that wait.
func waitingIDs(h *house.House) []int64 {
	var l []int64
	for _, x := range h.Waiting() {
		l = append(l, x.Record.ID)
	}
	return l
}

// arrivedIDs returns the numbers of the readings that arrived.
func arrivedIDs(h *house.House) []int64 {
	var l []int64
	for _, x := range h.Arrived() {
		l = append(l, x.ID)
	}
	return l
}

// P12.8: each reading waits, has arrived, or was dropped and told; what is dropped is
// less important than all that wait; a lost node takes no reading.
func TestNothingIsLostUnseen(t *testing.T) {
	r := rand.New(rand.NewSource(7))
	dropped, tripped := 0, 0
	for n := range 400 {
		l := sizes()[n%len(sizes())].begin(r)
		h := made(t, l.o)
		var told []int64
		records := map[int64]api.Record{}
		for range 60 {
			d := l.deed()
			lost := d.Kind == api.DeedRead && slices.Contains(h.Lost(), l.o.Stations[d.Station].Node)
			x, e := h.Do(d)
			if lost {
				same(t, d, cameOf(x), e, cameOf(api.Outcome{}), api.ErrTrip)
				tripped++
			}
			if d.Kind == api.DeedRead && e == api.OK {
				records[x.Record] = api.Record{ID: x.Record, Class: d.Class, Made: d.Sample.At, Size: d.Size, Packed: (d.Size + 1) / 2}
			}
			told = append(told, x.Dropped...)
			for _, id := range x.Dropped {
				dropped++
				for _, stays := range h.Waiting() {
					less, e := buffer.Less(records[id], stays.Record)
					same(t, d, less, e, true, api.OK)
				}
			}
			waiting, arrived := waitingIDs(h), arrivedIDs(h)
			for id := range records {
				if !slices.Contains(waiting, id) && !slices.Contains(arrived, id) && !slices.Contains(told, id) {
					t.Fatal(id, waiting, arrived, told)
				}
			}
			for _, id := range append(waiting, arrived...) {
				if _, ok := records[id]; !ok {
					t.Fatal(id, records)
				}
			}
		}
		for i, id := range told {
			if slices.Contains(told[:i], id) || slices.Contains(waitingIDs(h), id) {
				t.Fatal(told, waitingIDs(h))
			}
		}
	}
	if dropped < 300 || tripped < 500 {
		t.Error(dropped, tripped)
	}
}

// plain returns a random house that can hold everything and whose nodes are not lost,
// with up to n readings and events.
func (z size) plain(r *rand.Rand, n int) (*life, []api.Deed, []api.Deed) {
	l := z.begin(r)
	l.o.Capacity = api.MaxBytes
	m := modelOf(l.o)
	var events []api.Deed
	for range r.Intn(n + 1) {
		l.now += r.Int63n(l.pass)
		m.do(l.read())
		if d := l.event(); r.Intn(3) == 0 && m.learn(d) == api.OK {
			events = append(events, d)
		}
	}
	return l, m.deeds, events
}

// bring brings readings ashore, in a random order, each by a burst of its own, of which
// all others get lost.
func bring(t *testing.T, r *rand.Rand, h *house.House, numbers []int64) {
	t.Helper()
	for _, i := range r.Perm(len(numbers)) {
		sent := waitingIDs(h)
		k := slices.Index(sent, numbers[i])
		d := send(api.MaxBytes, 0, 0, ^uint32(0)&^(1<<k))
		d.Deaf = r.Intn(2) == 0
		does(t, h, d, api.Outcome{Record: -1, Arrived: numbers[i : i+1]}, api.OK)
	}
}

// shuffled returns a list in a random order.
func shuffled[T any](r *rand.Rand, l []T) []T {
	l = slices.Clone(l)
	r.Shuffle(len(l), func(i, k int) { l[i], l[k] = l[k], l[i] })
	return l
}

// onShore returns all that is told of what arrived, as a text.
func onShore(h *house.House, o api.Observatory, q [][]api.Part) string {
	l, e := h.Seen()
	all := []any{l, e}
	for k := range o.Stations {
		numbers, samples, _ := h.Readings(k)
		values, e := h.Values(k)
		all = append(all, numbers, samples, values, e)
	}
	for _, x := range q {
		answer, e := h.Ask(x)
		all = append(all, answer, e)
	}
	return fmt.Sprint(all...)
}

// P12.9: values, observations and answers depend only on what has arrived and on the
// events that are known.
func TestWhatArrived(t *testing.T) {
	r := rand.New(rand.NewSource(8))
	partly := 0
	for n := range 400 {
		l, reads, events := sizes()[n%len(sizes())].plain(r, 24)
		a, b := built(t, l.o, shuffled(r, events)...), made(t, l.o)
		for _, d := range reads {
			a.Do(d)
			b.Do(d)
			if r.Intn(4) == 0 {
				a.Do(deaf(send(r.Int63n(2*l.bytes), 0, 0, r.Uint32())))
			}
		}
		bring(t, r, b, arrivedIDs(a))
		for _, d := range shuffled(r, events) {
			does(t, b, d, api.Outcome{Record: -1}, api.OK)
		}
		equal(t, n, arrivedIDs(b), api.OK, arrivedIDs(a), api.OK)
		if k := len(a.Arrived()); k > 0 && k < len(reads) {
			partly++
		}
		q := questions(r, l.o.Field, 6)
		same(t, n, onShore(b, l.o, q), api.OK, onShore(a, l.o, q), api.OK)
	}
	if partly < 100 {
		t.Error(partly)
	}
}

// branches returns an observatory whose cable has a branch with a breaker for each node.
func branches() api.Observatory {
	o := roomy()
	for range 20 {
		o.Cable.Nodes = append(o.Cable.Nodes, api.Node{})
	}
	for k := range o.Cable.Nodes[1:] {
		o.Cable.Nodes[1+k] = api.Node{Delay: 5}
	}
	return o
}

// P12.13: what is lost in a copy is not lost in the house, in whatever order.
func TestLostInCopies(t *testing.T) {
	r := rand.New(rand.NewSource(13))
	for range 50 {
		h, m := made(t, branches()), modelOf(branches())
		for range 20 {
			for range 3 {
				c := h.Copy()
				c.Do(fault(1 + r.Intn(23)))
				c.Do(fault(1 + r.Intn(23)))
				c.Do(repair())
				equal(t, "Lost", h.Lost(), api.OK, m.lostNodes(), api.OK)
			}
			d := fault(1 + r.Intn(23))
			h.Do(d)
			m.do(d)
		}
		m.holds(t, "house", h)
	}
}

// P12.12: what becomes known later changes no answer Yes or No, under the conditions of
// the chapter.
func TestMoreKnown(t *testing.T) {
	r := rand.New(rand.NewSource(9))
	kept, changes, stopped := 0, 0, 0
	for n := range 500 {
		l := sizes()[n%len(sizes())].begin(r)
		l.o.Chain = chain(r, 3)
		h := made(t, l.o)
		q := questions(r, l.o.Field, 6)
		before := knownOf(h, l.o, q)
		for range 60 {
			d := l.deed()
			if d.Kind == api.DeedEvent {
				d.Event.Kind = api.EventCheck
			}
			if _, e := h.Do(d); e != api.OK || d.Kind != api.DeedEvent && d.Kind != api.DeedSend {
				continue
			}
			after := knownOf(h, l.o, q)
			if !after.consistent || !after.keeps(before) {
				stopped++
				break
			}
			for i, x := range before.answers {
				if x != api.Open && after.answers[i] != x {
					t.Fatal(l.o, q[i], x, after.answers[i])
				}
				if x != api.Open {
					kept++
				} else if after.answers[i] != x {
					changes++
				}
			}
			before = after
		}
	}
	if kept < 2000 || changes < 200 || stopped < 20 || stopped > 450 {
		t.Error(kept, changes, stopped)
	}
}

// knowledge is what is known in a house: whether the observations are consistent, and
// not more than 64, which readings have bounds, and the answers.
type knowledge struct {
	consistent bool
	bounds     map[int64]bool
	answers    []api.Answer
}

// knownOf returns what is known in a house.
func knownOf(h *house.House, o api.Observatory, q [][]api.Part) knowledge {
	k := knowledge{bounds: map[int64]bool{}}
	for station := range o.Stations {
		numbers, _, _ := h.Readings(station)
		values, _ := h.Values(station)
		for i, v := range values {
			k.bounds[numbers[i]] = !v.Empty && v.Lo.Step != 0
		}
	}
	l, e := h.Seen()
	_, _, f := field.Contradict(o.Field, l)
	k.consistent = e == api.OK && f == api.ErrNone && len(l) < api.MaxSeen
	for _, x := range q {
		answer, _ := h.Ask(x)
		k.answers = append(k.answers, answer)
	}
	return k
}

// keeps tells whether each value that had bounds keeps some.
func (k knowledge) keeps(before knowledge) bool {
	for n, had := range before.bounds {
		if had && !k.bounds[n] {
			return false
		}
	}
	return true
}
