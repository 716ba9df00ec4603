package archive_test

import (
	"fmt"
	"math"
	"math/rand"
	"slices"
	"strings"
	"testing"

	"isobath/api"
	"isobath/archive"
)

// parsed checks what Parse returns for the series of the chapter's examples.
func parsed(t *testing.T, text string, l []api.Entry, want api.Errno) {
	t.Helper()
	a, e := archive.Parse(pair(), text)
	if e != want || (a == nil) != (e != api.OK) {
		t.Fatalf("%q: %v, %v; want %v", text, a, e, want)
	}
	equal(t, text, a.Entries(), api.OK, l, api.OK)
}

// P11.8: Text writes the entries as of a time, in order.
func TestText(t *testing.T) {
	a := filled(t, pair(), three()...)
	lineA, lineB, lineC := "entry 0 10 0 20 1 0 100 104 raw\n", "entry 0 11 0 21 2 1000 110 110 raw\n", "entry 0 10 1 50 1 0 101 103 raw\n"
	for asOf, want := range map[int64]string{0: "", 19: "", 20: lineA, 21: lineA + lineB, 49: lineA + lineB, 50: lineA + lineC + lineB, most: lineA + lineC + lineB} {
		text, e := a.Text(asOf)
		same(t, asOf, text, e, want, api.OK)
	}
	for _, asOf := range []int64{math.MinInt64, -1, most + 1, math.MaxInt64} {
		text, e := a.Text(asOf)
		same(t, asOf, text, e, "", api.ErrArg)
	}
	parsed(t, lineA+lineC+lineB, []api.Entry{first(), third(), second()}, api.OK)
	parsed(t, "", nil, api.OK)
}

// P11.8: numbers of any size are written and read.
func TestTextOfGreatNumbers(t *testing.T) {
	s := []api.Series{{Name: "a", Bounds: span(-most, most)}, {Name: "b", Bounds: span(-5, -5)}}
	l := []api.Entry{
		{Time: most, Version: revised, Arrived: most, Owner: 63, Free: most, Value: span(-most, most), Cause: strings.Repeat("9", 20)},
		{Series: 1, Value: span(-5, -5), Cause: "0"},
	}
	want := "entry 0 1073741824 1048576 1073741824 63 1073741824 -1073741824 1073741824 99999999999999999999\nentry 1 0 0 0 0 0 -5 -5 0\n"
	text, e := filled(t, s, l...).Text(most)
	same(t, "Text", text, e, want, api.OK)
	a, e := archive.Parse(s, text)
	equal(t, "Parse", a.Entries(), e, l, api.OK)
}

// late is when long entries arrive.
const late = 1 << 26

// long returns 1,024 entries with a text of a length. All arrived at the same time
// but the last one, which arrived later.
func long(t *testing.T, length int) []api.Entry {
	t.Helper()
	l := full()
	n := 0
	for i := range l {
		l[i].Arrived, l[i].Free = late, most
		if i == len(l)-1 {
			l[i].Arrived++
		}
		n += len(lineOf(l[i]))
	}
	for i := range l {
		more := min(length-n, 20-len(l[i].Cause))
		l[i].Cause += strings.Repeat("x", more)
		n += more
	}
	if n != length {
		t.Fatal(n)
	}
	return l
}

// P11.8: a text has at most 65,536 bytes.
func TestLongTexts(t *testing.T) {
	for length, want := range map[int]api.Errno{65535: api.OK, 65536: api.OK, 65537: api.ErrLong, 65580: api.ErrLong} {
		l := long(t, length)
		a := filled(t, pair(), l...)
		text, e := a.Text(late)
		same(t, length, text, e, linesOf(l[:1023]), api.OK)
		text, e = a.Text(most)
		if want == api.OK {
			same(t, length, text, e, linesOf(l), api.OK)
			parsed(t, text, l, api.OK)
		} else {
			same(t, length, text, e, "", want)
			parsed(t, linesOf(l), nil, want)
		}
	}
	l := long(t, 65736)
	text, e := filled(t, pair(), l...).Text(late)
	same(t, "also without the last one", text, e, "", api.ErrLong)
}

// P11.8: Parse returns the errors of New first, then ErrLong, then ErrForm.
func TestOrderOfParse(t *testing.T) {
	tooLong := strings.Repeat("x", 65537)
	for _, x := range []struct {
		s    []api.Series
		text string
		want api.Errno
	}{
		{nil, tooLong, api.ErrMany}, {many(17), "x", api.ErrMany}, {append(many(1), many(1)...), tooLong, api.ErrArg},
		{pair(), tooLong, api.ErrLong}, {pair(), tooLong[1:], api.ErrForm}, {pair(), "x", api.ErrForm}, {nil, "", api.ErrMany},
	} {
		a, e := archive.Parse(x.s, x.text)
		if a != nil || e != x.want {
			t.Error(len(x.s), len(x.text), a, e, x.want)
		}
	}
}

// bad returns texts that differ from the line of a valid entry.
func bad() []string {
	good := "entry 0 10 0 20 1 0 100 104 raw"
	l := []string{
		good, good + "\r\n", good + " \n", " " + good + "\n", "\n" + good + "\n", good + "\n\n", good + "\n ", "\n", " ", "\n\n", "entry\n", "entry",
		good + " raw\n", good + "\x00", good + "\n" + good + "\n", good + "\nx", good + "\n\x00", "Entry" + good[5:] + "\n", "entries" + good[5:] + "\n", good[6:] + "\n", good[5:] + "\n",
		strings.ReplaceAll(good, " ", "\t") + "\n", strings.ReplaceAll(good, " ", "\n") + "\n", strings.TrimSuffix(good, " raw") + "\n", strings.TrimSuffix(good, "raw") + "\n",
	}
	words := strings.Split(good, " ")
	for i, w := range words {
		for _, other := range []string{"", " " + w, w + " ", "-1", "-0", "+" + w, "0" + w, "-" + w, w + ".0", w + "x", "0x" + w, "1e1", "1_0", "٣", "\"" + w + "\"", "18446744073709551616", "9223372036854775808", "4294967296", "-9223372036854775809", "401", "1073741825", "\xff"} {
			if i == 9 && (other == "0"+w || other == w+"x" || other == "0x"+w || len(strings.Trim(other, "0123456789e")) == 0 && other != "") {
				continue // these are names
			}
			if i > 1 && i < 7 && other == "401" {
				continue // a time, or a version
			}
			l = append(l, strings.Join(slices.Concat(words[:i], []string{other}, words[i+1:]), " ")+"\n")
		}
	}
	return l
}

// P11.8: Parse returns ErrForm for whatever Text cannot have written.
func TestParseOfBadTexts(t *testing.T) {
	for _, text := range bad() {
		parsed(t, text, nil, api.ErrForm)
	}
	lineA, lineB, lineC := lineOf(first()), lineOf(second()), lineOf(third())
	other := first()
	other.Owner = 7
	salt := api.Entry{Series: 1, Cause: "raw"}
	for _, text := range []string{
		lineA + lineA, lineA + lineOf(other), lineB + lineA, lineC + lineA, lineA + lineB + lineC, lineOf(salt) + lineA, lineA + "\n" + lineB, lineA + " " + lineB, lineA + lineB[:20], lineA + strings.TrimSuffix(lineB, "\n"),
	} {
		parsed(t, text, nil, api.ErrForm)
	}
	parsed(t, lineA+lineC+lineB+lineOf(salt), []api.Entry{first(), third(), second(), salt}, api.OK)
}

// P11.8: the text of more than 1,024 entries is not that of an archive.
func TestParseOfManyEntries(t *testing.T) {
	l := full()
	for i := range l {
		l[i].Cause = "x"
	}
	parsed(t, linesOf(l), l, api.OK)
	more := l[0]
	more.Time = 512
	parsed(t, linesOf(append(l, more)), nil, api.ErrForm)
	parsed(t, linesOf(append(l[1:], more)), append(l[1:], more), api.OK)
}

// P11.8: an entry that is not valid for the series is not in a text of an archive.
func TestParseOfEntriesThatAreNotValid(t *testing.T) {
	s := []api.Series{{Name: "a", Bounds: span(0, 0)}, {Name: "b", Bounds: span(-30, 40)}}
	for i, x := range bends() {
		e := api.Entry{Series: 1, Time: 5, Version: 6, Arrived: 7, Owner: 8, Free: 9, Cause: "c"}
		x.change(&e)
		a, wrong := archive.Parse(s, lineOf(e))
		if !x.ok {
			same(t, i, a == nil, wrong, true, api.ErrForm)
			continue
		}
		equal(t, i, a.Entries(), wrong, []api.Entry{e}, api.OK)
	}
}

// P11.14: Parse reads just what Text writes, and the archive is equal to the one
// that was written.
func TestParseOfTexts(t *testing.T) {
	r := rand.New(rand.NewSource(12))
	for range 500 {
		s, z := someShore(r)
		a := filled(t, s.series, s.l...)
		text, e := a.Text(most)
		same(t, s, text, e, s.text(most), api.OK)
		b, e := archive.Parse(s.series, text)
		same(t, s, b != nil, e, true, api.OK)
		s.holds(t, r, b, 4)
		more := s.with()
		for range 5 {
			x := z.entry(r, s)
			same(t, x, b.Add(x), api.OK, more.add(x), api.OK)
		}
		more.holds(t, r, b, 1)
		s.holds(t, r, a, 1)
	}
}

// changed returns a text with a random change.
func changed(r *rand.Rand, text string) string {
	i, k := r.Intn(len(text)+1), r.Intn(len(text)+1)
	i, k = min(i, k), max(i, k)
	letters := " \n-0123456789azentry+_.\x00\xff"
	letter := string(letters[r.Intn(len(letters))])
	switch r.Intn(5) {
	case 0:
		return text[:i] + letter + text[i:]
	case 1:
		return text[:i] + text[min(i+1, len(text)):]
	case 2:
		return text[:i] + letter + text[min(i+1, len(text)):]
	case 3:
		return text[:i] + text[k:]
	}
	lines := strings.SplitAfter(text, "\n")
	a, b := r.Intn(len(lines)), r.Intn(len(lines))
	lines[a], lines[b] = lines[b], lines[a]
	return strings.Join(lines, "")
}

// entriesOf returns the entries of a text, as fmt reads them, and whether the
// text is that of an archive.
func (s shore) entriesOf(text string) ([]api.Entry, bool) {
	got := shore{series: s.series}
	for _, l := range strings.SplitAfter(text, "\n") {
		var e api.Entry
		if l == "" {
			continue
		}
		if _, err := fmt.Sscanf(l, "entry %d %d %d %d %d %d %d %d %s\n", &e.Series, &e.Time, &e.Version, &e.Arrived, &e.Owner, &e.Free, &e.Value.Lo, &e.Value.Hi, &e.Cause); err != nil {
			return nil, false
		}
		if got.add(e) != api.OK {
			return nil, false
		}
	}
	return got.l, got.text(most) == text
}

// P11.14: a text that was changed is read only if it is the text of an archive.
func TestParseOfChangedTexts(t *testing.T) {
	r := rand.New(rand.NewSource(13))
	read := 0
	for range 6000 {
		s, _ := someShore(r)
		if len(s.l) > 4 {
			s.l = s.l[:4]
		}
		text := changed(r, s.text(most))
		if r.Intn(3) == 0 {
			text = changed(r, text)
		}
		l, ok := s.entriesOf(text)
		a, e := archive.Parse(s.series, text)
		if !ok {
			same(t, text, a == nil, e, true, api.ErrForm)
			continue
		}
		read++
		equal(t, text, a.Entries(), e, l, api.OK)
		again, e := a.Text(most)
		same(t, text, again, e, text, api.OK)
	}
	if read < 600 || read > 5400 {
		t.Error(read)
	}
}
