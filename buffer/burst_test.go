package buffer_test

import (
	"math/rand"
	"slices"
	"testing"

	"isobath/api"
)

// P8.3: records go from the most important one on, and those that do not fit
// into what is left are passed over.
func TestBurst(t *testing.T) {
	l := []api.Record{record(4, 9, 0, 50, 50), record(3, 8, 0, 30, 30), record(2, 8, 0, 60, 60), record(1, 7, 5, 20, 20), record(0, 0, 0, 1, 1)}
	for _, x := range []struct {
		bytes int64
		want  []int64
	}{
		{0, nil}, {1, []int64{0}}, {20, []int64{1}}, {21, []int64{1, 0}}, {50, []int64{4}}, {51, []int64{4, 0}}, {79, []int64{4, 1, 0}},
		{109, []int64{4, 3, 1, 0}}, {110, []int64{4, 2}}, {131, []int64{4, 2, 1, 0}}, {161, []int64{4, 2, 3, 1, 0}}, {1 << 24, []int64{4, 2, 3, 1, 0}},
	} {
		b := filled(t, 200, l...)
		sent, e := b.Burst(x.bytes, 9, 0)
		equal(t, x, sent, e, x.want, api.OK)
		for _, h := range b.Held() {
			if (h.Sent == 9) != slices.Contains(sent, h.Record.ID) || h.Sent != 9 && h.Sent != notSent {
				t.Fatal(x, h)
			}
		}
	}
}

// P8.3: a record that is compressed takes fewer bytes.
func TestBurstOfCompressed(t *testing.T) {
	b := filled(t, 90, record(1, 1, 0, 60, 30), record(2, 0, 0, 50, 30))
	equalState(t, "Put", b, []api.Held{held(record(1, 1, 0, 60, 30), false, notSent), held(record(2, 0, 0, 50, 30), true, notSent)})
	sent, e := b.Burst(59, 0, 0)
	equal(t, "59", sent, e, []int64{2}, api.OK)
	sent, e = b.Burst(90, 0, 0)
	equal(t, "90", sent, e, []int64{1, 2}, api.OK)
}

// P8.3: a record that was sent waits until the waiting time is over; what was
// not sent waits for nothing.
func TestWait(t *testing.T) {
	for _, x := range []struct {
		sent, at, wait int64
		again          bool
	}{
		{0, 0, 0, true}, {0, 0, 1, false}, {0, 1, 1, true}, {0, 1, 2, false}, {10, 19, 10, false}, {10, 20, 10, true}, {10, 21, 10, true},
		{10, 10, 0, true}, {0, most, most, true}, {1, most, most, false}, {0, most - 1, most, false}, {most, most, 0, true}, {most, most, 1, false},
	} {
		b := filled(t, 10, plain(1, 1))
		sent, e := b.Burst(1, x.sent, most)
		equal(t, x, sent, e, []int64{1}, api.OK)
		b.Put(plain(2, 1))
		want := []int64{2}
		if x.again {
			want = []int64{1, 2}
		}
		sent, e = b.Burst(2, x.at, x.wait)
		equal(t, x, sent, e, want, api.OK)
	}
}

// P8.3: the time of a burst is that of the buffer then, also if nothing is sent;
// it is 0 at first.
func TestTimeOfBurst(t *testing.T) {
	b := made(t, 10)
	for _, x := range []struct {
		at   int64
		want api.Errno
	}{{-1, api.ErrRange}, {0, api.OK}, {0, api.OK}, {5, api.OK}, {4, api.ErrRange}, {5, api.OK}, {most + 1, api.ErrRange}, {6, api.OK}, {most, api.OK}, {most, api.OK}, {most - 1, api.ErrRange}} {
		sent, e := b.Burst(0, x.at, 0)
		equal(t, x, sent, e, nil, x.want)
	}
}

// P8.3: bytes, time and waiting time have limits, and beyond them nothing
// changes: neither the records nor the time.
func TestErrorsOfBurst(t *testing.T) {
	b := filled(t, 10, plain(1, 1))
	b.Burst(0, 5, 0)
	bad := [][3]int64{{-1, 5, 0}, {1<<24 + 1, 5, 0}, {1, 4, 0}, {1, most + 1, 0}, {1, 5, -1}, {1, 5, most + 1}}
	for _, x := range wildNumbers() {
		bad = append(bad, [3]int64{x, 9, 0}, [3]int64{1, x, 0}, [3]int64{1, 9, x})
	}
	for _, x := range append(bad, [3]int64{-1, 9, 0}, [3]int64{1, 9, -1}) {
		sent, e := b.Burst(x[0], x[1], x[2])
		equal(t, x, sent, e, nil, api.ErrRange)
		equalState(t, x, b, []api.Held{held(plain(1, 1), false, notSent)})
	}
	sent, e := b.Burst(1<<24, 5, most)
	equal(t, "limits", sent, e, []int64{1}, api.OK)
}

// P8.3: an acknowledgement removes just the records whose ID is in the set.
func TestAck(t *testing.T) {
	for _, x := range []struct {
		s    []api.Span
		stay []int64
	}{
		{nil, []int64{0, 1, 2, 3, 4, 5, 6, 7}},
		{[]api.Span{}, []int64{0, 1, 2, 3, 4, 5, 6, 7}},
		{[]api.Span{span(0, 0)}, []int64{1, 2, 3, 4, 5, 6, 7}},
		{[]api.Span{span(-9, 1), span(3, 4), span(7, most)}, []int64{2, 5, 6}},
		{[]api.Span{span(-most, -1), span(8, most)}, []int64{0, 1, 2, 3, 4, 5, 6, 7}},
		{[]api.Span{span(-most, most)}, nil},
	} {
		b := filled(t, 10, plains(0, 7, 1)...)
		n, e := b.Ack(x.s)
		same(t, x, n, e, 8-len(x.stay), api.OK)
		equal(t, x, heldIDs(b), e, x.stay, api.OK)
		n, e = b.Ack(x.s)
		same(t, x, n, e, 0, api.OK)
	}
}

// P8.3: what is acknowledged has to be a normal set, and otherwise nothing is
// removed.
func TestErrorsOfAck(t *testing.T) {
	b := filled(t, 10, plains(0, 7, 1)...)
	var long []api.Span
	for i := range int64(257) {
		long = append(long, span(3*i, 3*i))
	}
	for _, s := range [][]api.Span{
		{span(0, 3), span(4, 5)}, {span(0, 3), span(3, 5)}, {span(4, 5), span(0, 1)}, {span(3, 2)}, {span(0, most+1)}, {span(-most-1, 0)}, {span(0, 1), span(7, 6)},
	} {
		n, e := b.Ack(s)
		same(t, s, n, e, 0, api.ErrArg)
	}
	n, e := b.Ack(long)
	same(t, "long", n, e, 0, api.ErrMany)
	n, e = b.Ack(append([]api.Span{span(1, 0)}, long...))
	same(t, "long and not valid", n, e, 0, api.ErrMany)
	equal(t, "stay", heldIDs(b), api.OK, []int64{0, 1, 2, 3, 4, 5, 6, 7}, api.OK)
	n, e = b.Ack(long[:256])
	same(t, "256 spans", n, e, 3, api.OK)
}

// P8.9: a burst sends no more than its bytes, nothing too early, and nothing
// twice; what could wait no longer did not fit beside what is more important.
func TestBursts(t *testing.T) {
	r := rand.New(rand.NewSource(6))
	passed := 0
	for n := range 300 {
		k := kinds()[n%len(kinds())]
		b := made(t, min(40*k.size, api.MaxBytes))
		now := int64(0)
		for range 30 {
			for range r.Intn(5) {
				b.Put(k.record(r))
			}
			now += r.Int63n(4)
			bytes, wait := r.Int63n(min(6*k.size, api.MaxBytes)), r.Int63n(8)
			before := b.Held()
			sent, e := b.Burst(bytes, now, wait)
			if e != api.OK {
				t.Fatal(e)
			}
			passed += checkBurst(t, before, sent, bytes, now, wait)
		}
	}
	if passed < 1000 {
		t.Error(passed)
	}
}

// checkBurst compares what was in a buffer with what was sent, and returns how
// many records were passed over.
func checkBurst(t *testing.T, before []api.Held, sent []int64, bytes, now, wait int64) int {
	t.Helper()
	left, passed := bytes, 0
	for _, h := range before {
		early := h.Sent != notSent && now-h.Sent < wait
		if len(sent) > 0 && sent[0] == h.Record.ID {
			left -= bytesOf(h)
			sent = sent[1:]
			if early || left < 0 {
				t.Fatal(h, left)
			}
			continue
		}
		if !early && bytesOf(h) <= left {
			t.Fatal(h, left)
		}
		if !early {
			passed++
		}
	}
	// What was sent came in the order of Held, and so no record twice.
	if len(sent) > 0 {
		t.Fatal(sent)
	}
	return passed
}

// P8.3 and P8.9: with the waiting time 0 nothing waits.
func TestNoWait(t *testing.T) {
	b := filled(t, 30, plains(1, 3, 10)...)
	for range 3 {
		sent, e := b.Burst(20, 4, 0)
		equal(t, "again", sent, e, []int64{1, 2}, api.OK)
	}
}
