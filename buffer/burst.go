package buffer

import (
	"iter"

	"isobath/api"
	"isobath/bound"
)

// sending yields the records that a burst sends, in the order in which it does.
func (b *Buffer) sending(bytes, t, wait int64) iter.Seq[api.Held] {
	return func(yield func(api.Held) bool) {
		left := bytes
		for h := range b.ranked() {
			waits := h.Sent != api.NotSent && h.Sent > t-wait
			if waits || bytesOf(h) > left {
				continue
			}
			left -= bytesOf(h)
			if !yield(h) {
				return
			}
		}
	}
}

// Burst returns the records that are sent. (P8.3)
func (b *Buffer) Burst(bytes, t, wait int64) ([]int64, api.Errno) {
	if !b.valid() {
		return nil, api.ErrNil
	}
	if !within(bytes, 0, api.MaxBytes) || !within(t, b.time, api.MaxValue) || !within(wait, 0, api.MaxValue) {
		return nil, api.ErrRange
	}
	b.time = t
	var sent []int64
	for h := range b.sending(bytes, t, wait) {
		h.Sent = t
		b.held[h.Record.ID] = h
		sent = append(sent, h.Record.ID)
	}
	return sent, api.OK
}

// Ack removes records that have arrived. (P8.3)
func (b *Buffer) Ack(s []api.Span) (int, api.Errno) {
	if !b.valid() {
		return 0, api.ErrNil
	}
	if e := bound.CheckSet(s); e != api.OK {
		return 0, e
	}
	var stay []int64
	for _, id := range b.order {
		if arrived, _ := bound.Has(s, id); arrived {
			delete(b.held, id)
		} else {
			stay = append(stay, id)
		}
	}
	removed := len(b.order) - len(stay)
	b.order = stay
	return removed, api.OK
}
