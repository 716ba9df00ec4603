package house

import (
	"strconv"
	"strings"

	"isobath/api"
)

// spanOf returns the span with two numbers of a line.
func spanOf(x []int64) api.Span { return api.Span{Lo: x[0], Hi: x[1]} }

// readOf returns the deed with the numbers of a line for a reading.
func readOf(x []int64) api.Deed {
	s := api.Sample{At: x[1], Raw: spanOf(x[2:]), Climate: spanOf(x[4:])}
	for i := 8; i+1 < len(x); i += 2 {
		s.Near = append(s.Near, spanOf(x[i:]))
	}
	return api.Deed{Kind: api.DeedRead, Station: int(x[0]), Sample: s, Class: int(x[6]), Size: x[7]}
}

// faultOf returns the deed with the numbers of a line for a fault.
func faultOf(x []int64) api.Deed {
	d := api.Deed{Kind: api.DeedFault, Segment: int(x[0])}
	for _, k := range x[1:] {
		d.Stuck = append(d.Stuck, int(k))
	}
	return d
}

// deedIn returns the deed with the first word of a line and its numbers, and whether
// there may be one.
func deedIn(word string, x []int64) (api.Deed, bool) {
	switch {
	case word == readWord && len(x) >= 8:
		return readOf(x), true
	case word == sendWord && len(x) >= 4:
		return api.Deed{Kind: api.DeedSend, Bytes: x[0], At: x[1], Wait: x[2], Lost: uint32(x[3]), Deaf: len(x) > 4}, true
	case word == faultWord && len(x) >= 1:
		return faultOf(x), true
	case word == repairWord:
		return api.Deed{Kind: api.DeedRepair}, true
	case word == eventWord && len(x) >= 5:
		e := api.Event{Kind: int(x[1]), At: x[2], Offset: spanOf(x[3:])}
		return api.Deed{Kind: api.DeedEvent, Station: int(x[0]), Event: e}, true
	}
	return api.Deed{}, false
}

// reader returns a function that reads a line of a text for an observatory: it
// returns the deed with this line, and whether there is one.
func reader(o api.Observatory) func(l string) (api.Deed, bool) {
	return func(l string) (api.Deed, bool) {
		words := strings.Split(strings.TrimSuffix(l, "\n"), " ")
		var numbers []int64
	rest:
		for _, word := range words[1:] {
			switch word {
			case checkWord:
				numbers = append(numbers, api.EventCheck)
			case cleanWord:
				numbers = append(numbers, api.EventClean)
			case deafWord:
				numbers = append(numbers, 1)
			default:
				n, err := strconv.ParseInt(word, 10, 64)
				if err != nil {
					break rest
				}
				numbers = append(numbers, n)
			}
		}
		d, ok := deedIn(words[0], numbers)
		if !ok {
			return api.Deed{}, false
		}
		// Of all ways to write a deed only one is its line. With words that are out
		// of place, or that are none, a line is not that of what was read.
		s, ok := line(o, d)
		return d, ok && s == l
	}
}

// Parse returns the deeds of a text. (P12.7)
func Parse(o api.Observatory, s string) ([]api.Deed, api.Errno) {
	if e := Check(o); e != api.OK {
		return nil, e
	}
	if len(s) > api.MaxText {
		return nil, api.ErrLong
	}
	var deeds []api.Deed
	read := reader(o)
	for l := range strings.Lines(s) {
		d, ok := read(l)
		if !ok || len(deeds) == api.MaxDeeds {
			return nil, api.ErrForm
		}
		deeds = append(deeds, d)
	}
	return deeds, api.OK
}
