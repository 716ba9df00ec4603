package house_test

import (
	"math/rand"
	"slices"
	"testing"

	"isobath/api"
	"isobath/field"
)

// world is what is true: the values of a field at all spots. The deeds of its stations
// are true in the sense of layer 6.
type world struct {
	*life
	values []int64
}

// world returns a random world.
func (z size) world(r *rand.Rand) world {
	l := z.begin(r)
	l.o.Capacity = api.MaxBytes
	w := world{life: l}
	for k := range (l.o.Field.Last + 1) * l.o.Field.Wide * l.o.Field.High {
		// What is in all these spans is possible beside the values before it.
		in := l.o.Field.Range
		for i, x := range w.values {
			d, _ := field.Distance(l.o.Field, w.spot(i), w.spot(k))
			in = span(max(in.Lo, x-d), min(in.Hi, x+d))
		}
		w.values = append(w.values, in.Lo+r.Int63n(in.Hi-in.Lo+1))
	}
	return w
}

// spot returns the spot with a number.
func (w world) spot(k int) api.Spot {
	cells := w.o.Field.Wide * w.o.Field.High
	return spot(k/cells, k%cells)
}

// at returns the true value at a spot.
func (w world) at(s api.Spot) int64 {
	return w.values[s.Moment*w.o.Field.Wide*w.o.Field.High+s.Cell]
}

// read returns the true value at a station at a time. It is anything where the time is
// in no moment.
func (w world) read(station int, at int64) int64 {
	m, c := modelOf(w.o).moment(at), w.o.Field.Change
	if m < 0 {
		return w.r.Int63n(100)
	}
	return w.at(spot(m, w.o.Stations[station].Cell)) + w.r.Int63n(2*c+1) - c
}

// times returns up to n different times in increasing order, from before the first
// moment to after the last one.
func (w world) times(n int) []int64 {
	from, to := max(w.o.Start-w.o.Pace, 0), w.o.Start+w.o.Pace*int64(w.o.Field.Last+2)
	var l []int64
	for range w.r.Intn(n + 1) {
		l = append(l, from+w.r.Int63n(to-from))
	}
	slices.Sort(l)
	return slices.Compact(l)
}

// rate returns the least rate by which true values can change as they do.
func rate(times, values []int64) int64 {
	most := int64(0)
	for i, t := range times {
		for k, u := range times[:i] {
			most = max(most, (max(values[i]-values[k], values[k]-values[i])*1440+t-u-1)/(t-u))
		}
	}
	return most
}

// deeds returns the readings and the events of a station, in the order of their times:
// it has as great a rate as its values need.
func (w world) deeds(station int) []api.Deed {
	var l []api.Deed
	var times, values []int64
	s := &w.o.Stations[station]
	offset, last := w.r.Int63n(21)-10, int64(0)
	for _, t := range w.times(18) {
		drift := s.Drift * (t - last) / 1440
		offset, last = offset+w.r.Int63n(2*drift+1)-drift, t
		if w.r.Intn(3) == 0 {
			d := check(station, t, 0, 0)
			if w.r.Intn(3) == 0 {
				d.Event.Kind, offset = api.EventClean, w.r.Int63n(21)-10
			}
			d.Event.Offset = enclosing(w.r, offset, 4)
			l = append(l, d)
			continue
		}
		x := w.read(station, t)
		times, values = append(times, t), append(values, x)
		d := read(station, t, 0, 0, w.r.Intn(10), 1+w.r.Int63n(w.bytes))
		d.Sample.Raw, d.Sample.Climate = enclosing(w.r, x+offset, 5), enclosing(w.r, x, 40)
		for range w.r.Intn(3) {
			d.Sample.Near = append(d.Sample.Near, enclosing(w.r, x, 30))
		}
		l = append(l, d)
	}
	s.Change = rate(times, values)
	return l
}

// enclosing returns a random span that contains a number.
func enclosing(r *rand.Rand, x, wide int64) api.Span {
	return span(x-r.Int63n(wide+1), x+r.Int63n(wide+1))
}

// isTrue tells whether a question is true of the true values.
func (w world) isTrue(q []api.Part) bool {
	var stack []bool
	for _, p := range q {
		n := len(stack)
		switch p.Kind {
		case api.AskAbove:
			stack = append(stack, w.at(p.A) > p.Limit)
		case api.AskMore:
			stack = append(stack, w.at(p.A)-w.at(p.B) > p.Limit)
		case api.AskRegion:
			sum := int64(0)
			for _, c := range p.Region {
				sum += w.at(spot(p.A.Moment, c))
			}
			stack = append(stack, sum > p.Limit)
		case api.AskNot:
			stack[n-1] = !stack[n-1]
		case api.AskAll:
			stack = append(stack[:n-2], stack[n-2] && stack[n-1])
		case api.AskAny:
			stack = append(stack[:n-2], stack[n-2] || stack[n-1])
		}
	}
	return stack[0]
}

// P12.11: if all readings and events are true, the observations contain the true
// values, and each answer Yes or No is true.
func TestTruth(t *testing.T) {
	r := rand.New(rand.NewSource(10))
	observed, answers := 0, map[api.Answer]int{}
	for n := range 500 {
		w := sizes()[n%len(sizes())].world(r)
		queues := make([][]api.Deed, len(w.o.Stations))
		for k := range queues {
			queues[k] = w.deeds(k)
			if r.Intn(2) == 0 {
				queues[k] = eventsAnywhere(r, queues[k])
			}
		}
		h := made(t, w.o)
		for range 60 {
			if k := r.Intn(len(queues)); len(queues[k]) > 0 {
				_, e := h.Do(queues[k][0])
				same(t, queues[k][0], e, api.OK, api.OK, api.OK)
				queues[k] = queues[k][1:]
			}
			if r.Intn(3) == 0 {
				h.Do(send(r.Int63n(9*w.bytes), 0, 0, r.Uint32()&r.Uint32()))
			}
			l, e := h.Seen()
			fits, f := field.Fits(w.o.Field, l, w.values)
			same(t, l, e, f, api.OK, api.OK)
			if !fits {
				t.Fatal(w.o, w.values, l)
			}
			observed += len(l)
			q := question(r, w.o.Field, 2)
			x, e := h.Ask(q)
			same(t, q, e, api.OK, api.OK, api.OK)
			answers[x]++
			if x != api.Open && w.isTrue(q) != (x == api.Yes) {
				t.Fatal(w.o, w.values, q, x)
			}
		}
	}
	if observed < 20000 || min(answers[api.Yes], answers[api.No], answers[api.Open]) < 3000 {
		t.Error(observed, answers)
	}
}

// eventsAnywhere returns deeds of which the readings stay in their order, and the
// cleanings come first: as long as one is not known, what is known is not true.
func eventsAnywhere(r *rand.Rand, l []api.Deed) []api.Deed {
	var cleanings, checks, readings []api.Deed
	for _, d := range l {
		switch {
		case d.Kind == api.DeedRead:
			readings = append(readings, d)
		case d.Event.Kind == api.EventClean:
			cleanings = append(cleanings, d)
		default:
			checks = append(checks, d)
		}
	}
	for _, d := range checks {
		readings = slices.Insert(readings, r.Intn(len(readings)+1), d)
	}
	return append(cleanings, readings...)
}
