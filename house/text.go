package house

import (
	"slices"
	"strconv"
	"strings"

	"isobath/api"
)

// The first words of the lines.
const (
	readWord   = "read"
	sendWord   = "send"
	faultWord  = "fault"
	repairWord = "repair"
	eventWord  = "event"
)

// The words of an acknowledgement that is lost, and of the kinds of events.
const (
	deafWord  = "deaf"
	checkWord = "check"
	cleanWord = "clean"
)

// numbered returns words for numbers, behind other words.
func numbered(words []string, l ...int64) []string {
	for _, x := range l {
		words = append(words, strconv.FormatInt(x, 10))
	}
	return words
}

func (d taking) words() []string {
	s := d.Sample
	l := numbered([]string{readWord}, int64(d.Station), s.At, s.Raw.Lo, s.Raw.Hi, s.Climate.Lo, s.Climate.Hi, int64(d.Class), d.Size)
	for _, a := range s.Near {
		l = numbered(l, a.Lo, a.Hi)
	}
	return l
}

func (d sending) words() []string {
	l := numbered([]string{sendWord}, d.Bytes, d.At, d.Wait, int64(d.Lost))
	if d.Deaf {
		l = append(l, deafWord)
	}
	return l
}

func (d failing) words() []string {
	l := numbered([]string{faultWord}, int64(d.Segment))
	for _, k := range d.Stuck {
		l = numbered(l, int64(k))
	}
	return l
}

func (d repairing) words() []string { return []string{repairWord} }

func (d learning) words() []string {
	kind := checkWord
	if d.Event.Kind == api.EventClean {
		kind = cleanWord
	}
	l := append(numbered([]string{eventWord}, int64(d.Station)), kind)
	return numbered(l, d.Event.At, d.Event.Offset.Lo, d.Event.Offset.Hi)
}

// equal tells whether two deeds are the same.
func equal(a, b api.Deed) bool {
	s, u := a.Sample, b.Sample
	sample := s.At == u.At && s.Raw == u.Raw && s.Climate == u.Climate && slices.Equal(s.Near, u.Near)
	read := a.Station == b.Station && sample && a.Class == b.Class && a.Size == b.Size
	send := a.Bytes == b.Bytes && a.At == b.At && a.Wait == b.Wait && a.Lost == b.Lost && a.Deaf == b.Deaf
	return a.Kind == b.Kind && read && send && a.Segment == b.Segment && slices.Equal(a.Stuck, b.Stuck) && a.Event == b.Event
}

// line returns the line of a deed, and whether it can be written.
func line(o api.Observatory, d api.Deed) (string, bool) {
	x, ok := deedOf(d)
	if !ok || !x.fits(o) || !equal(d, x.own()) {
		return "", false
	}
	if !within(d.Bytes, 0, api.MaxValue) || !within(d.At, 0, api.MaxValue) || !within(d.Wait, 0, api.MaxValue) {
		return "", false
	}
	return strings.Join(x.words(), " ") + "\n", true
}

// Text returns the text of deeds. (P12.7)
func Text(o api.Observatory, l []api.Deed) (string, api.Errno) {
	if e := Check(o); e != api.OK {
		return "", e
	}
	if len(l) > api.MaxDeeds {
		return "", api.ErrMany
	}
	var text strings.Builder
	for _, d := range l {
		s, ok := line(o, d)
		if !ok {
			return "", api.ErrArg
		}
		text.WriteString(s)
	}
	if text.Len() > api.MaxText {
		return "", api.ErrLong
	}
	return text.String(), api.OK
}
