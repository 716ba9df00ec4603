package archive

import (
	"iter"
	"strconv"
	"strings"

	"isobath/api"
)

// The words of a line: its first one, the numbers, and the cause.
const (
	lineWord = "entry"
	numbers  = 8
)

// line returns the line of an entry.
func line(e api.Entry) string {
	words := []string{lineWord}
	for _, x := range [numbers]int64{int64(e.Series), e.Time, int64(e.Version), e.Arrived, int64(e.Owner), e.Free, e.Value.Lo, e.Value.Hi} {
		words = append(words, strconv.FormatInt(x, 10))
	}
	return strings.Join(append(words, e.Cause), " ") + "\n"
}

// lines returns the lines of entries.
func lines(l iter.Seq[api.Entry]) string {
	var text strings.Builder
	for e := range l {
		text.WriteString(line(e))
	}
	return text.String()
}

// Text returns the text of an archive as of a time. (P11.8)
func (a *Archive) Text(asOf int64) (string, api.Errno) {
	if !a.valid() {
		return "", api.ErrNil
	}
	if !isTime(asOf) {
		return "", api.ErrArg
	}
	text := lines(a.asOf(asOf))
	if len(text) > api.MaxText {
		return "", api.ErrLong
	}
	return text, api.OK
}

// readLine returns the entry with a line, and whether there is one. It need not be
// valid.
func readLine(l string) (api.Entry, bool) {
	words := strings.Split(strings.TrimSuffix(l, "\n"), " ")
	if len(words) != numbers+2 {
		return api.Entry{}, false
	}
	var x [numbers]int64
	for i := range x {
		n, err := strconv.ParseInt(words[1+i], 10, 64)
		if err != nil {
			return api.Entry{}, false
		}
		x[i] = n
	}
	e := api.Entry{
		Series: int(x[0]), Time: x[1], Version: int(x[2]), Arrived: x[3], Owner: int(x[4]), Free: x[5],
		Value: api.Span{Lo: x[6], Hi: x[7]}, Cause: words[1+numbers],
	}
	// Of all ways to write an entry only one is its line.
	return e, line(e) == l
}

// Parse returns the archive with a text. (P11.8)
func Parse(s []api.Series, text string) (*Archive, api.Errno) {
	a, wrong := New(s)
	if wrong != api.OK {
		return nil, wrong
	}
	if len(text) > api.MaxText {
		return nil, api.ErrLong
	}
	last := key{series: -1}
	for l := range strings.Lines(text) {
		e, ok := readLine(l)
		if !ok || compare(last, keyOf(e)) >= 0 || a.Add(e) != api.OK {
			goto bad
		}
		last = keyOf(e)
	}
	return a, api.OK
bad:
	return nil, api.ErrForm
}
