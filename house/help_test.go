package house_test

import (
	"fmt"
	"math/rand"
	"slices"
	"testing"

	"isobath/api"
	"isobath/buffer"
	"isobath/cable"
	"isobath/field"
	"isobath/house"
	"isobath/sensor"
)

const most = api.MaxValue

func span(lo, hi int64) api.Span { return api.Span{Lo: lo, Hi: hi} }

func spot(moment, cell int) api.Spot { return api.Spot{Moment: moment, Cell: cell} }

func seen(moment, cell int, lo, hi int64) api.Seen {
	return api.Seen{Spot: spot(moment, cell), Set: span(lo, hi)}
}

// example returns the observatory of the chapter's examples.
func example() api.Observatory {
	return api.Observatory{
		Cable: api.Cable{Supply: span(10000, 10000), Nodes: []api.Node{
			{Parent: -1, Limit: 1000, Delay: api.NoBreaker},
			{Parent: 0, Ohms: span(100, 200), Limit: 500, Load: span(100, 100), Least: 9000, Delay: 30},
			{Parent: 1, Ohms: span(1000, 1000), Limit: 300, Load: span(200, 300), Least: 9700, Delay: 10},
			{Parent: 1, Ohms: span(500, 500), Limit: 300, Load: span(0, 50), Least: 9900, Delay: api.NoBreaker},
		}},
		Field:    api.Field{Wide: 3, High: 1, Last: 1, Range: span(0, 100), Space: 10, Change: 5},
		Start:    1000,
		Pace:     100,
		Stations: []api.Station{{Node: 2, Cell: 0}, {Node: 3, Cell: 2}},
		Capacity: 100,
		Chain:    []int{api.StepRaw},
	}
}

// roomy returns the observatory of the examples with a buffer for everything.
func roomy() api.Observatory {
	o := example()
	o.Capacity = api.MaxBytes
	return o
}

// Deeds.

func read(station int, at, lo, hi int64, class int, size int64, near ...api.Span) api.Deed {
	return api.Deed{Kind: api.DeedRead, Station: station, Sample: api.Sample{At: at, Raw: span(lo, hi), Near: near}, Class: class, Size: size}
}

// withClimate returns the deed of a reading with a climatology.
func withClimate(d api.Deed, lo, hi int64) api.Deed {
	d.Sample.Climate = span(lo, hi)
	return d
}

func send(bytes, at, wait int64, lost uint32) api.Deed {
	return api.Deed{Kind: api.DeedSend, Bytes: bytes, At: at, Wait: wait, Lost: lost}
}

// deaf returns the deed of a burst whose acknowledgement is lost.
func deaf(d api.Deed) api.Deed {
	d.Deaf = true
	return d
}

func fault(segment int, stuck ...int) api.Deed {
	return api.Deed{Kind: api.DeedFault, Segment: segment, Stuck: stuck}
}

func repair() api.Deed { return api.Deed{Kind: api.DeedRepair} }

func check(station int, at, lo, hi int64) api.Deed {
	return api.Deed{Kind: api.DeedEvent, Station: station, Event: api.Event{Kind: api.EventCheck, At: at, Offset: span(lo, hi)}}
}

func clean(station int, at, lo, hi int64) api.Deed {
	d := check(station, at, lo, hi)
	d.Event.Kind = api.EventClean
	return d
}

// The deeds of the chapter's examples.

func firstRead() api.Deed  { return read(0, 1010, 25, 30, 3, 40) }
func secondRead() api.Deed { return read(1, 1150, 60, 62, 5, 60) }

// diary returns the first deeds of the examples, up to a number.
func diary(n int) []api.Deed {
	return []api.Deed{
		firstRead(), secondRead(), check(0, 1000, 0, 5), check(1, 1000, 2, 2),
		send(100, 1200, 0, 1), fault(2), send(100, 1210, 0, 0),
	}[:n]
}

// everyKind returns a deed of each kind that is valid for the example.
func everyKind() []api.Deed {
	return []api.Deed{
		withClimate(read(1, 1155, 60, 62, 5, 60, span(-7, 8), span(0, 0)), -3, 9),
		deaf(send(100, 1200, 5, 6)), fault(3, 2, 1, 2), repair(), clean(1, 1001, -2, 2), check(0, 1002, 0, 3),
	}
}

// made returns a new house.
func made(t *testing.T, o api.Observatory) *house.House {
	t.Helper()
	h, e := house.New(o)
	if h == nil || e != api.OK {
		t.Fatal(o, e)
	}
	return h
}

// built returns a house in which deeds were done.
func built(t *testing.T, o api.Observatory, l ...api.Deed) *house.House {
	t.Helper()
	h := made(t, o)
	for i, d := range l {
		if _, e := h.Do(d); e != api.OK {
			t.Fatal(i, d, e)
		}
	}
	return h
}

// equal compares a list that a function returns, and its error, with those that are
// wanted.
func equal[T comparable](t *testing.T, name any, got []T, e api.Errno, want []T, wantErr api.Errno) {
	t.Helper()
	if !slices.Equal(got, want) || e != wantErr {
		t.Fatalf("%v: %v, %v; want %v, %v", name, got, e, want, wantErr)
	}
}

// same compares what a function returns, and its error, with what is wanted.
func same[T comparable](t *testing.T, name any, got T, e api.Errno, want T, wantErr api.Errno) {
	t.Helper()
	if got != want || e != wantErr {
		t.Fatalf("%v: %v, %v; want %v, %v", name, got, e, want, wantErr)
	}
}

// cameOf returns the outcome of a deed as a text, in which a nil list is an empty one.
func cameOf(x api.Outcome) string { return fmt.Sprintf("%+v", x) }

// does does a deed and compares what comes of it with what is wanted.
func does(t *testing.T, h *house.House, d api.Deed, want api.Outcome, wantErr api.Errno) {
	t.Helper()
	got, e := h.Do(d)
	same(t, d, cameOf(got), e, cameOf(want), wantErr)
}

// The chapter's definitions, as they are written.

// taken is a reading that was taken.
type taken struct {
	station int
	sample  api.Sample
	record  api.Record
}

// known is an event that is known for a station.
type known struct {
	station int
	event   api.Event
}

// model is a house, with all deeds that were done and all readings that were dropped.
type model struct {
	o       api.Observatory
	buffer  *buffer.Buffer
	inbox   *buffer.Inbox
	taken   []taken
	known   []known
	lost    map[int]bool
	deeds   []api.Deed
	dropped []int64
}

// modelOf returns a house at first.
func modelOf(o api.Observatory) *model {
	b, _ := buffer.New(o.Capacity)
	return &model{o: o, buffer: b, inbox: buffer.NewInbox(), lost: map[int]bool{}}
}

func isSpan(a api.Span) bool { return -most <= a.Lo && a.Lo <= a.Hi && a.Hi <= most }

// validSample tells whether a list with a sample alone is valid.
func validSample(s api.Sample) bool {
	if s.At < 0 || s.At > 1<<30 || !isSpan(s.Raw) || !isSpan(s.Climate) || len(s.Near) > 8 {
		return false
	}
	return !slices.ContainsFunc(s.Near, func(a api.Span) bool { return !isSpan(a) })
}

// validEvent tells whether a sensor with an event alone is valid.
func validEvent(e api.Event) bool {
	return (e.Kind == 1 || e.Kind == 2) && e.At >= 0 && e.At <= 1<<30 && isSpan(e.Offset)
}

// validDeed tells whether a deed is valid for an observatory.
func validDeed(o api.Observatory, d api.Deed) bool {
	station := d.Station >= 0 && d.Station < len(o.Stations)
	switch d.Kind {
	case 1:
		return station && validSample(d.Sample) && d.Class >= 0 && d.Class <= 9 && d.Size >= 1 && d.Size <= 1<<24
	case 3:
		for _, k := range d.Stuck {
			if k < 0 || k >= len(o.Cable.Nodes) || o.Cable.Nodes[k].Delay == -1 {
				return false
			}
		}
		return d.Segment >= 1 && d.Segment < len(o.Cable.Nodes) && len(d.Stuck) <= 16
	case 5:
		return station && validEvent(d.Event)
	}
	return d.Kind == 2 || d.Kind == 4
}

// do does a deed.
func (m *model) do(d api.Deed) (api.Outcome, api.Errno) {
	if len(m.deeds) >= 200 {
		return api.Outcome{}, api.ErrFull
	}
	if !validDeed(m.o, d) {
		return api.Outcome{}, api.ErrArg
	}
	out, e := api.Outcome{Record: -1}, api.OK
	switch d.Kind {
	case api.DeedRead:
		out, e = m.read(d)
	case api.DeedSend:
		out.Arrived, e = m.send(d)
	case api.DeedFault:
		if !m.lost[d.Segment] {
			l, _ := cable.Lost(m.o.Cable, []int{d.Segment}, d.Stuck)
			for _, k := range l {
				m.lost[k] = true
			}
		}
		out.Lost = m.lostNodes()
	case api.DeedRepair:
		clear(m.lost)
	case api.DeedEvent:
		e = m.learn(d)
	}
	if e != api.OK {
		return api.Outcome{}, e
	}
	m.deeds = append(m.deeds, d)
	return out, api.OK
}

// read takes a reading.
func (m *model) read(d api.Deed) (api.Outcome, api.Errno) {
	if m.lost[m.o.Stations[d.Station].Node] {
		return api.Outcome{}, api.ErrTrip
	}
	for _, x := range m.taken {
		if x.station == d.Station && x.sample.At >= d.Sample.At {
			return api.Outcome{}, api.ErrLate
		}
	}
	r := api.Record{ID: int64(len(m.taken)), Class: d.Class, Made: d.Sample.At, Size: d.Size, Packed: d.Size - d.Size/2}
	l, e := m.buffer.Put(r)
	if e != api.OK {
		return api.Outcome{}, e
	}
	m.taken = append(m.taken, taken{d.Station, d.Sample, r})
	m.dropped = append(m.dropped, l...)
	return api.Outcome{Record: r.ID, Dropped: l}, api.OK
}

// send sends a burst, and returns what arrived.
func (m *model) send(d api.Deed) ([]int64, api.Errno) {
	sent, e := m.buffer.Burst(d.Bytes, d.At, d.Wait)
	var arrived []int64
	for i, id := range sent {
		if i < 32 && d.Lost/(1<<i)%2 == 1 {
			continue
		}
		if took, _ := m.inbox.Take(m.taken[id].record); took {
			arrived = append(arrived, id)
		}
	}
	if e == api.OK && !d.Deaf {
		m.buffer.Ack(m.inbox.Acks())
	}
	return arrived, e
}

// learn makes an event known.
func (m *model) learn(d api.Deed) api.Errno {
	n := 0
	for _, x := range m.known {
		if x.station == d.Station && x.event.At == d.Event.At {
			return api.ErrHave
		}
		if x.station == d.Station {
			n++
		}
	}
	if n >= 64 {
		return api.ErrMany
	}
	m.known = append(m.known, known{d.Station, d.Event})
	return api.OK
}

// lostNodes returns the lost nodes.
func (m *model) lostNodes() []int {
	var l []int
	for k := range m.o.Cable.Nodes {
		if m.lost[k] {
			l = append(l, k)
		}
	}
	return l
}

// readings returns the readings of a station that arrived.
func (m *model) readings(station int) ([]int64, []api.Sample) {
	var numbers []int64
	var samples []api.Sample
	for i, x := range m.taken {
		if x.station == station && slices.Contains(m.inbox.Records(), x.record) {
			numbers, samples = append(numbers, int64(i)), append(samples, x.sample)
		}
	}
	return numbers, samples
}

// values returns the values of a station. The events are in the order in which they
// became known.
func (m *model) values(station int) ([]api.Value, api.Errno) {
	_, samples := m.readings(station)
	if len(samples) > 64 {
		return nil, api.ErrMany
	}
	s := api.Sensor{Drift: m.o.Stations[station].Drift, Change: m.o.Stations[station].Change}
	for _, x := range m.known {
		if x.station == station {
			s.Events = append(s.Events, x.event)
		}
	}
	return sensor.Process(s, samples, m.o.Chain)
}

// moment returns the moment of a time, or -1.
func (m *model) moment(at int64) int {
	for k := 0; k <= m.o.Field.Last; k++ {
		if from := m.o.Start + int64(k)*m.o.Pace; from <= at && at < from+m.o.Pace {
			return k
		}
	}
	return -1
}

// seen returns the observations.
func (m *model) seen() ([]api.Seen, api.Errno) {
	found := map[int64]api.Seen{}
	for k, s := range m.o.Stations {
		l, e := m.values(k)
		if e != api.OK {
			return nil, e
		}
		numbers, samples := m.readings(k)
		for i, v := range l {
			c := m.o.Field.Change
			x := seen(m.moment(samples[i].At), s.Cell, v.Set.Lo-c, v.Set.Hi+c)
			if !v.Empty && v.Lo.Step != 0 && x.Spot.Moment >= 0 && isSpan(x.Set) {
				found[numbers[i]] = x
			}
		}
	}
	var l []api.Seen
	for n := range int64(len(m.taken)) {
		if x, ok := found[n]; ok && len(l) < 64 {
			l = append(l, x)
		}
	}
	return l, api.OK
}

// ask returns the answer to a question.
func (m *model) ask(q []api.Part) (api.Answer, api.Errno) {
	l, e := m.seen()
	if e != api.OK {
		return api.No, e
	}
	return field.Ask(m.o.Field, l, q)
}

// equalSamples tells whether two lists of samples are equal.
func equalSamples(a, b []api.Sample) bool {
	return slices.EqualFunc(a, b, func(x, y api.Sample) bool {
		return x.At == y.At && x.Raw == y.Raw && x.Climate == y.Climate && slices.Equal(x.Near, y.Near)
	})
}

// holds compares all that a house tells with the definitions.
func (m *model) holds(t *testing.T, name any, h *house.House, questions ...[]api.Part) {
	t.Helper()
	same(t, name, h.Many(), api.OK, len(m.deeds), api.OK)
	equal(t, name, h.Lost(), api.OK, m.lostNodes(), api.OK)
	equal(t, name, h.Waiting(), api.OK, m.buffer.Held(), api.OK)
	equal(t, name, h.Arrived(), api.OK, m.inbox.Records(), api.OK)
	for k := range m.o.Stations {
		numbers, samples, e := h.Readings(k)
		wantNumbers, wantSamples := m.readings(k)
		equal(t, name, numbers, e, wantNumbers, api.OK)
		if !equalSamples(samples, wantSamples) {
			t.Fatal(name, samples, wantSamples)
		}
		values, e := h.Values(k)
		wantValues, wantErr := m.values(k)
		equal(t, name, values, e, wantValues, wantErr)
	}
	l, e := h.Seen()
	want, wantErr := m.seen()
	equal(t, name, l, e, want, wantErr)
	for _, q := range questions {
		x, e := h.Ask(q)
		want, wantErr := m.ask(q)
		same(t, name, x, e, want, wantErr)
	}
}

// tells returns all that a house tells, as a text.
func tells(h *house.House, questions ...[]api.Part) string {
	l := []any{h.Many(), h.Lost(), h.Waiting(), h.Arrived()}
	for k := range api.MaxStations {
		numbers, samples, e := h.Readings(k)
		values, f := h.Values(k)
		l = append(l, numbers, samples, e, values, f)
	}
	all, e := h.Seen()
	l = append(l, all, e)
	for _, q := range questions {
		x, e := h.Ask(q)
		l = append(l, x, e)
	}
	return fmt.Sprint(l...)
}

// Random observatories and deeds.

// size is how great random houses are: their nodes, stations, the sides and moments
// of their fields, the minutes of a moment, the minutes that pass between deeds, the
// sizes of records, and how many of them a buffer can hold about.
type size struct {
	nodes, stations, side, moments int
	pace, pass, bytes, held        int64
}

// sizes returns sizes of small and of great houses.
func sizes() []size {
	return []size{
		{4, 2, 2, 3, 30, 4, 50, 4}, {1, 1, 1, 1, 100, 9, 9, 2}, {9, 8, 3, 4, 25, 9, 100, 9},
		{20, 3, 2, 8, 7, 2, 30, 30}, {60, 8, 8, 8, 10, 2, 1000, 200}, {5, 2, 2, 2, 1 << 19, 1 << 16, 1 << 16, 8},
	}
}

// chain returns a random chain of steps up to a greatest one.
func chain(r *rand.Rand, greatest int) []int {
	l := r.Perm(greatest)
	for i := range l {
		l[i]++
	}
	return l[:r.Intn(greatest+1)]
}

// cable returns a random cable.
func (z size) cable(r *rand.Rand) api.Cable {
	l := []api.Node{{Parent: -1, Delay: -1}}
	for k := 1; k <= r.Intn(z.nodes); k++ {
		l = append(l, api.Node{Parent: r.Intn(k), Delay: r.Int63n(12) - 1})
	}
	return api.Cable{Nodes: l}
}

// observatory returns a random observatory.
func (z size) observatory(r *rand.Rand) api.Observatory {
	o := api.Observatory{
		Cable: z.cable(r),
		Field: api.Field{Wide: 1 + r.Intn(z.side), High: 1 + r.Intn(z.side), Last: r.Intn(z.moments), Range: span(-r.Int63n(30), 100+r.Int63n(30)), Space: r.Int63n(30), Change: r.Int63n(20)},
		Start: r.Int63n(2 * z.pace), Pace: 1 + r.Int63n(z.pace), Capacity: 1 + r.Int63n(z.bytes*z.held), Chain: chain(r, 4),
	}
	for range 1 + r.Intn(z.stations) {
		s := api.Station{Node: r.Intn(len(o.Cable.Nodes)), Cell: r.Intn(o.Field.Wide * o.Field.High)}
		if r.Intn(2) == 0 {
			s.Drift, s.Change = r.Int63n(500), r.Int63n(3000)
		}
		o.Stations = append(o.Stations, s)
	}
	return o
}

// around returns a random span near a number.
func around(r *rand.Rand, x, wide int64) api.Span {
	return span(x-r.Int63n(wide+1)+r.Int63n(3), x+3+r.Int63n(wide+1))
}

// life does random deeds in a house: now is its time, truth about what is read.
type life struct {
	size
	r     *rand.Rand
	o     api.Observatory
	now   int64
	truth int64
}

// begin returns the life of a random house.
func (z size) begin(r *rand.Rand) *life {
	return &life{size: z, r: r, o: z.observatory(r), truth: 20 + r.Int63n(60)}
}

// deed returns a random deed, that is valid, but may be not possible.
func (l *life) deed() api.Deed {
	l.now += l.r.Int63n(l.pass)
	switch l.r.Intn(14) {
	case 0:
		return l.fault()
	case 1:
		return repair()
	case 2, 3, 4:
		return l.event()
	case 5, 6, 7, 8:
		return l.send()
	}
	return l.read()
}

// read returns a random reading, which may be too late or too large, and now and then
// wrong.
func (l *life) read() api.Deed {
	at, x := l.now, l.truth+l.r.Int63n(9)-4
	if l.r.Intn(12) == 0 {
		x = l.r.Int63n(200) - 50
	}
	if l.r.Intn(9) == 0 {
		at = l.r.Int63n(l.now + 1)
	}
	d := read(l.r.Intn(len(l.o.Stations)), at, 0, 0, l.r.Intn(10), 1+l.r.Int63n(l.bytes))
	d.Sample.Raw, d.Sample.Climate = around(l.r, x, 5), around(l.r, x, 20)
	for range l.r.Intn(3) {
		d.Sample.Near = append(d.Sample.Near, around(l.r, x, 20))
	}
	return d
}

// send returns a random burst, which may come too early.
func (l *life) send() api.Deed {
	d := send(l.r.Int63n(4*l.bytes), l.now, l.r.Int63n(3*l.pass), l.r.Uint32()&l.r.Uint32())
	if l.r.Intn(5) == 0 {
		d.At = max(0, l.now-l.r.Int63n(2*l.pass))
	}
	if l.r.Intn(3) == 0 {
		d.Lost = 0
	}
	d.Deaf = l.r.Intn(4) == 0
	return d
}

// fault returns a random fault, which is not valid if there is no segment.
func (l *life) fault() api.Deed {
	d := fault(l.r.Intn(len(l.o.Cable.Nodes)))
	for k, n := range l.o.Cable.Nodes {
		if n.Delay >= 0 && l.r.Intn(6) == 0 && len(d.Stuck) < api.MaxStuck {
			d.Stuck = append(d.Stuck, k)
		}
	}
	return d
}

// event returns a random event, which may be known.
func (l *life) event() api.Deed {
	d := check(l.r.Intn(len(l.o.Stations)), l.r.Int63n(l.now+l.pass), 0, 0)
	d.Event.Offset = around(l.r, 0, 6)
	if l.r.Intn(4) == 0 {
		d.Event.Kind = api.EventClean
	}
	return d
}

// question returns a random question for a field, whose parts are put together from
// others up to a depth.
func question(r *rand.Rand, f api.Field, depth int) []api.Part {
	if depth > 0 && r.Intn(2) == 0 {
		q := question(r, f, depth-1)
		if r.Intn(3) == 0 {
			return append(q, api.Part{Kind: api.AskNot})
		}
		return append(append(q, question(r, f, depth-1)...), api.Part{Kind: api.AskAll + r.Intn(2)})
	}
	some := func() api.Spot { return spot(r.Intn(f.Last+1), r.Intn(f.Wide*f.High)) }
	p := api.Part{Kind: 1 + r.Intn(3), A: some(), B: some(), Limit: r.Int63n(130) - 20}
	if p.Kind == api.AskMore {
		p.Limit = r.Int63n(60) - 30
	}
	if p.Kind == api.AskRegion {
		for c := range f.Wide * f.High {
			if r.Intn(3) == 0 || c == p.A.Cell {
				p.Region = append(p.Region, c)
			}
		}
		p.Limit *= int64(len(p.Region))
	}
	return []api.Part{p}
}

// questions returns random questions for a field.
func questions(r *rand.Rand, f api.Field, n int) [][]api.Part {
	var l [][]api.Part
	for range n {
		l = append(l, question(r, f, 2))
	}
	return l
}
