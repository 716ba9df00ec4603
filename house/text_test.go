package house_test

import (
	"fmt"
	"math"
	"math/rand"
	"slices"
	"strings"
	"testing"

	"isobath/api"
	"isobath/house"
)

// lineOf returns the line of a deed.
func lineOf(d api.Deed) string {
	switch s := d.Sample; d.Kind {
	case api.DeedRead:
		l := fmt.Sprintf("read %d %d %d %d %d %d %d %d", d.Station, s.At, s.Raw.Lo, s.Raw.Hi, s.Climate.Lo, s.Climate.Hi, d.Class, d.Size)
		for _, a := range s.Near {
			l += fmt.Sprintf(" %d %d", a.Lo, a.Hi)
		}
		return l + "\n"
	case api.DeedSend:
		if d.Deaf {
			return fmt.Sprintf("send %d %d %d %d deaf\n", d.Bytes, d.At, d.Wait, d.Lost)
		}
		return fmt.Sprintf("send %d %d %d %d\n", d.Bytes, d.At, d.Wait, d.Lost)
	case api.DeedFault:
		return strings.TrimSuffix("fault "+fmt.Sprint(d.Segment)+" "+strings.Trim(fmt.Sprint(d.Stuck), "[]"), " ") + "\n"
	case api.DeedRepair:
		return "repair\n"
	}
	e := d.Event
	return fmt.Sprintf("event %d %s %d %d %d\n", d.Station, []string{"", "check", "clean"}[e.Kind], e.At, e.Offset.Lo, e.Offset.Hi)
}

// textOf returns the text of deeds.
func textOf(l []api.Deed) string {
	text := ""
	for _, d := range l {
		text += lineOf(d)
	}
	return text
}

// deedsOf returns deeds as a text, in which a nil list is an empty one.
func deedsOf(l []api.Deed) string { return fmt.Sprintf("%+v", l) }

// written checks what Text returns for deeds.
func written(t *testing.T, o api.Observatory, l []api.Deed, want string, wantErr api.Errno) {
	t.Helper()
	text, e := house.Text(o, l)
	same(t, deedsOf(l), text, e, want, wantErr)
}

// parsed checks what Parse returns for a text.
func parsed(t *testing.T, o api.Observatory, text string, want []api.Deed, wantErr api.Errno) {
	t.Helper()
	l, e := house.Parse(o, text)
	if deedsOf(l) != deedsOf(want) || e != wantErr {
		t.Fatalf("%q: %v, %v; want %v, %v", text, l, e, want, wantErr)
	}
}

// P12.7: Text writes deeds of all kinds, and Parse reads them.
func TestText(t *testing.T) {
	for text, d := range map[string]api.Deed{
		"read 0 1010 25 30 0 0 3 40\n":                              firstRead(),
		"read 1 1155 60 62 -3 9 5 60 -7 8 0 0\n":                    everyKind()[0],
		"send 100 1200 5 6 deaf\n":                                  everyKind()[1],
		"send 100 1200 0 1\n":                                       diary(5)[4],
		"send 0 0 0 4294967295\n":                                   send(0, 0, 0, math.MaxUint32),
		"send 1073741824 1073741824 1073741824 2147483648 deaf\n":   deaf(send(most, most, most, 1<<31)),
		"fault 3 2 1 2\n":                                           fault(3, 2, 1, 2),
		"fault 1\n":                                                 fault(1),
		"repair\n":                                                  repair(),
		"event 1 clean 1001 -2 2\n":                                 clean(1, 1001, -2, 2),
		"event 0 check 0 -1073741824 1073741824\n":                  check(0, 0, -most, most),
		"read 1 1073741824 -1073741824 1073741824 0 0 9 16777216\n": read(1, most, -most, most, 9, 1<<24),
	} {
		written(t, example(), []api.Deed{d}, text, api.OK)
		written(t, example(), []api.Deed{repair(), d, d}, "repair\n"+text+text, api.OK)
		parsed(t, example(), text, []api.Deed{d}, api.OK)
		parsed(t, example(), text+text+"repair\n", []api.Deed{d, d, repair()}, api.OK)
	}
	written(t, example(), everyKind(), textOf(everyKind()), api.OK)
	parsed(t, example(), textOf(everyKind()), everyKind(), api.OK)
	written(t, example(), nil, "", api.OK)
	parsed(t, example(), "", nil, api.OK)
}

// P12.7: deeds that could not be done after one another have a text, too.
func TestTextOfAnyOrder(t *testing.T) {
	l := []api.Deed{fault(2), read(0, 9, 1, 2, 3, 4), read(0, 9, 1, 2, 3, 4), read(0, 8, 1, 2, 3, 1<<24), check(0, 1, 0, 0), clean(0, 1, 0, 0), send(most, 5, 0, 0), send(0, 4, 0, 0)}
	written(t, example(), l, textOf(l), api.OK)
	parsed(t, example(), textOf(l), l, api.OK)
}

// P12.7: a deed that is not valid for the observatory cannot be written, and its text
// is none.
func TestTextOfDeedsThatAreNotValid(t *testing.T) {
	for _, x := range knocks() {
		want, text := api.OK, ""
		if x.ok {
			text = textOf([]api.Deed{repair(), x.d})
		} else {
			want = api.ErrArg
		}
		written(t, example(), []api.Deed{repair(), x.d}, text, want)
		if event := x.d.Event.Kind; event < 0 || event > 2 || event == 0 && x.d.Kind == api.DeedEvent {
			continue // these have no words
		}
		if x.d.Kind < 1 || x.d.Kind > 5 {
			continue
		}
		if x.ok {
			parsed(t, example(), lineOf(x.d), []api.Deed{x.d}, api.OK)
		} else {
			parsed(t, example(), lineOf(x.d), nil, api.ErrForm)
		}
	}
	o := example()
	o.Stations = o.Stations[:1]
	written(t, o, []api.Deed{secondRead()}, "", api.ErrArg)
	parsed(t, o, lineOf(secondRead()), nil, api.ErrForm)
	written(t, o, []api.Deed{firstRead()}, lineOf(firstRead()), api.OK)
	o.Cable.Nodes[2].Delay = api.NoBreaker
	written(t, o, []api.Deed{fault(1, 2)}, "", api.ErrArg)
	parsed(t, o, "fault 1 2\n", nil, api.ErrForm)
	parsed(t, o, "fault 1 1\n", []api.Deed{fault(1, 1)}, api.OK)
}

// P12.7: the numbers of a burst are from 0 to MaxValue.
func TestTextOfBursts(t *testing.T) {
	for _, x := range []int64{math.MinInt64, -1, most + 1, math.MaxInt64} {
		for _, d := range []api.Deed{send(x, 1, 2, 3), send(1, x, 2, 3), send(1, 2, x, 3), send(x, x, x, 3)} {
			written(t, example(), []api.Deed{d}, "", api.ErrArg)
			parsed(t, example(), lineOf(d), nil, api.ErrForm)
		}
	}
	for _, x := range []int64{0, 1 << 24, 1<<24 + 1, most} {
		for _, d := range []api.Deed{send(x, 1, 2, 3), send(1, x, 2, 3), send(1, 2, x, 3)} {
			written(t, example(), []api.Deed{d}, lineOf(d), api.OK)
			parsed(t, example(), lineOf(d), []api.Deed{d}, api.OK)
		}
	}
}

// strays returns changes of parts of a deed, with the kinds to which they belong.
func strays() map[int][]func(d *api.Deed) {
	return map[int][]func(d *api.Deed){
		api.DeedRead: {
			func(d *api.Deed) { d.Sample.At++ },
			func(d *api.Deed) { d.Sample.Raw.Lo-- },
			func(d *api.Deed) { d.Sample.Raw.Hi++ },
			func(d *api.Deed) { d.Sample.Climate.Lo-- },
			func(d *api.Deed) { d.Sample.Climate.Hi++ },
			func(d *api.Deed) { d.Sample.Near = append(d.Sample.Near, span(0, 0)) },
			func(d *api.Deed) { d.Class++ },
			func(d *api.Deed) { d.Size++ },
		},
		api.DeedSend: {
			func(d *api.Deed) { d.Bytes++ },
			func(d *api.Deed) { d.At++ },
			func(d *api.Deed) { d.Wait++ },
			func(d *api.Deed) { d.Lost++ },
			func(d *api.Deed) { d.Deaf = !d.Deaf },
		},
		api.DeedFault: {
			func(d *api.Deed) { d.Segment = (d.Segment + 1) % 4 },
			func(d *api.Deed) { d.Stuck = append(d.Stuck, 1) },
		},
		api.DeedEvent: {
			func(d *api.Deed) { d.Event.Kind = (d.Event.Kind + 1) % 3 },
			func(d *api.Deed) { d.Event.At++ },
			func(d *api.Deed) { d.Event.Offset.Lo-- },
			func(d *api.Deed) { d.Event.Offset.Hi++ },
		},
		0: { // of a reading, and of an event
			func(d *api.Deed) { d.Station = 1 - d.Station },
		},
	}
}

// P12.7: with anything that does not belong to its kind a deed cannot be written.
func TestTextOfStrayParts(t *testing.T) {
	for _, good := range []api.Deed{firstRead(), send(1, 2, 3, 4), fault(1, 1), repair(), check(0, 1, 0, 0)} {
		for kind, changes := range strays() {
			for i, change := range changes {
				d := good
				change(&d)
				own := kind == d.Kind || kind == 0 && (d.Kind == api.DeedRead || d.Kind == api.DeedEvent)
				if own && validDeed(example(), d) {
					written(t, example(), []api.Deed{d}, lineOf(d), api.OK)
					continue
				}
				text, e := house.Text(example(), []api.Deed{d})
				same(t, []any{good.Kind, kind, i}, text, e, "", api.ErrArg)
			}
		}
	}
	d := repair()
	d.Stuck, d.Sample.Near = []int{}, []api.Span{}
	written(t, example(), []api.Deed{d}, "repair\n", api.OK)
}

// P12.7: Text writes at most 200 deeds, and Parse reads no more.
func TestTextOfManyDeeds(t *testing.T) {
	l := slices.Repeat(everyKind(), 40)
	written(t, example(), l[:200], textOf(l[:200]), api.OK)
	parsed(t, example(), textOf(l[:200]), l[:200], api.OK)
	written(t, example(), l[:201], "", api.ErrMany)
	parsed(t, example(), textOf(l[:201]), nil, api.ErrForm)
	parsed(t, example(), textOf(l[:200])+"\n", nil, api.ErrForm)
	bad := append(slices.Clone(l[:200]), api.Deed{})
	written(t, example(), bad, "", api.ErrMany)
	written(t, example(), bad[1:], "", api.ErrArg)
	written(t, example(), make([]api.Deed, 5000), "", api.ErrMany)
}

// P12.7: the longest text of 200 deeds has less than 65,536 bytes, and Parse reads no
// text of more.
func TestLongTexts(t *testing.T) {
	o, wide := example(), span(-most, -most)
	d := withClimate(read(1, most, wide.Lo, wide.Hi, 9, 1<<24, slices.Repeat([]api.Span{wide}, 8)...), wide.Lo, wide.Hi)
	l := slices.Repeat([]api.Deed{d}, 200)
	written(t, o, l, textOf(l), api.OK)
	parsed(t, o, textOf(l), l, api.OK)
	text := textOf(l)
	text += strings.Repeat("x", 65536-len(text))
	for _, x := range []struct {
		text string
		want api.Errno
	}{
		{text, api.ErrForm}, {text + "\n", api.ErrLong}, {textOf(l) + textOf(l), api.ErrLong}, {strings.Repeat("repair\n", 9362), api.ErrForm}, {strings.Repeat("repair\n", 9363), api.ErrLong},
		{strings.Repeat(" ", 65536), api.ErrForm}, {strings.Repeat("\n", 65536), api.ErrForm}, {strings.Repeat("\n", 65537), api.ErrLong},
		{"fault 1" + strings.Repeat(" 1", 9), api.ErrForm}, {"fault 1" + strings.Repeat(" 1", 32764) + "\n", api.ErrForm},
	} {
		parsed(t, o, x.text, nil, x.want)
	}
}

// bad returns texts that differ from the line of a valid deed.
func bad(good string) []string {
	l := []string{
		good, good + "\r\n", good + " \n", " " + good + "\n", "\n" + good + "\n", good + "\n\n", good + "\n ", "\n", " ", "\n\n", good + "\x00", good + "\x00\n", good + "\nx", good + "\n\x00",
		strings.ToUpper(good) + "\n", strings.ToUpper(good[:1]) + good[1:] + "\n", "x" + good + "\n", good[1:] + "\n", good + " x\n", good + " deaf deaf\n", good + " check\n", good + " 00\n", good + "\t\n", good + ".\n",
		good + " 5 4 3 2 1 0 9 8 7 6 5 4 3 2 1 0 9 8 7 6 5 4 3 2 1\n",
	}
	words := strings.Split(good, " ")
	for i, w := range words {
		for _, other := range []string{"", " " + w, w + " ", "-0", "+" + w, "0" + w, "-" + w, w + ".0", w + "x", "0x" + w, "1e1", "1_0", "٣", "\"" + w + "\"", "18446744073709551616", "9223372036854775808", "4294967296", "-9223372036854775809", "1073741825", "\xff", "deaf", "check check"} {
			if other == "-"+w && w == "25" || other == "1073741825" && words[0] == "send" && i == 4 || other == "deaf" && i > 4 && words[0] == "send" {
				continue // these are such lines
			}
			l = append(l, strings.Join(slices.Concat(words[:i], []string{other}, words[i+1:]), " ")+"\n")
		}
		if i == 0 {
			continue
		}
		less := slices.Concat(words[:i], words[i+1:])
		if words[0] == "read" && i > 8 || words[0] == "fault" && i > 0 && len(words) > 2 || words[0] == "send" && i > 4 {
			continue
		}
		l = append(l, strings.Join(less, " ")+"\n")
	}
	return l
}

// P12.7: Parse returns ErrForm for whatever Text cannot have written.
func TestParseOfBadTexts(t *testing.T) {
	lines := []string{"read 1 1155 25 62 -3 9 5 60", "send 100 1200 5 6 deaf", "send 100 1200 5 6", "fault 3 2 1", "repair", "event 1 clean 1001 -2 7", "event 0 check 1002 0 3"}
	for _, good := range lines {
		l, e := house.Parse(example(), good+"\n")
		same(t, good, len(l), e, 1, api.OK)
		for _, text := range bad(good) {
			parsed(t, example(), text, nil, api.ErrForm)
			parsed(t, example(), "repair\n"+text+"repair\n", nil, api.ErrForm)
		}
	}
	for _, text := range []string{
		"read\n", "send\n", "fault\n", "event\n", "read ", "repair 1\n", "repair deaf\n", "repair \n", "deaf\n", "check\n", "0\n", "event 1 1 1001 -2 2\n", "event 1 2 1001 -2 2\n", "event clean 1 1001 -2 2\n", "event 1 clean clean -2 2\n",
		"send 100 1200 5 6 1\n", "send deaf 100 1200 5 6\n", "send 100 1200 5 deaf\n", "send 100 1200 5 6 check\n", "send 100 1200 5 6 7\n", "send 100 1200 5 -1\n", "send 100 1200 5 4294967296\n", "send 100 1200 deaf 6\n", "fault check\n", "fault 3 deaf\n",
		"read 1 1155 25 62 -3 9 5 60 1\n", "read 1 1155 25 62 -3 9 5 60 1 2 3\n", "read 1 1155 25 62 -3 9 5 60 2 1\n", "read 1 1155 25 62 -3 9 5 60" + strings.Repeat(" 1 2", 9) + "\n", "read check 1155 25 62 -3 9 5 60\n", "read 1 1155 25 62 -3 9 5\n",
	} {
		parsed(t, example(), text, nil, api.ErrForm)
	}
}

// writable returns random deeds of which each one can be written.
func (l *life) writable(n int) []api.Deed {
	var deeds []api.Deed
	for len(deeds) < n {
		if d := l.deed(); validDeed(l.o, d) {
			deeds = append(deeds, d)
		}
	}
	return deeds
}

// P12.7: Parse reads what Text writes.
func TestTextOfRandomDeeds(t *testing.T) {
	r := rand.New(rand.NewSource(4))
	for n := range 600 {
		l := sizes()[n%len(sizes())].begin(r)
		deeds := l.writable(r.Intn(60))
		written(t, l.o, deeds, textOf(deeds), api.OK)
		parsed(t, l.o, textOf(deeds), deeds, api.OK)
	}
}

// changed returns a text with a random change.
func changed(r *rand.Rand, text string) string {
	i, k := r.Intn(len(text)+1), r.Intn(len(text)+1)
	i, k = min(i, k), max(i, k)
	letters := " \n-0123456789deafchcklnrpi+_.\x00\xff"
	letter := string(letters[r.Intn(len(letters))])
	switch r.Intn(5) {
	case 0:
		return text[:i] + letter + text[i:]
	case 1:
		return text[:i] + text[min(i+1, len(text)):]
	case 2:
		return text[:i] + letter + text[min(i+1, len(text)):]
	case 3:
		return text[:i] + text[min(k, i+9):]
	}
	words := strings.SplitAfter(text, " ")
	a, b := r.Intn(len(words)), r.Intn(len(words))
	words[a], words[b] = words[b], words[a]
	return strings.Join(words, "")
}

// numberIn returns the number that a word is, as fmt writes it.
func numberIn(w string) (int64, bool) {
	var x int64
	_, err := fmt.Sscan(w, &x)
	return x, err == nil && fmt.Sprint(x) == w
}

// deedWith returns the deed whose words are those of a line, and whether there may be
// one.
func deedWith(words []string) (api.Deed, bool) {
	var x []int64
	d := api.Deed{}
	for i, w := range words[1:] {
		switch n, ok := numberIn(w); {
		case ok:
			x = append(x, n)
		case words[0] == "event" && i == 1 && w == "check":
			d.Event.Kind = api.EventCheck
		case words[0] == "event" && i == 1 && w == "clean":
			d.Event.Kind = api.EventClean
		case words[0] == "send" && i == 4 && w == "deaf" && len(words) == 6:
			d.Deaf = true
		default:
			return d, false
		}
	}
	switch n := len(x); {
	case words[0] == "read" && n >= 8 && n%2 == 0:
		d = withClimate(read(int(x[0]), x[1], x[2], x[3], int(x[6]), x[7]), x[4], x[5])
		for i := 8; i < n; i += 2 {
			d.Sample.Near = append(d.Sample.Near, span(x[i], x[i+1]))
		}
	case words[0] == "send" && n == 4 && x[3] >= 0 && x[3] < 1<<32:
		d.Kind, d.Bytes, d.At, d.Wait, d.Lost = api.DeedSend, x[0], x[1], x[2], uint32(x[3])
		return d, min(x[0], x[1], x[2]) >= 0 && max(x[0], x[1], x[2]) <= most
	case words[0] == "fault" && n >= 1:
		d = fault(int(x[0]))
		for _, k := range x[1:] {
			d.Stuck = append(d.Stuck, int(k))
		}
	case words[0] == "repair" && n == 0:
		d = repair()
	case words[0] == "event" && n == 4 && d.Event.Kind > 0:
		d.Kind, d.Station, d.Event.At, d.Event.Offset = api.DeedEvent, int(x[0]), x[1], span(x[2], x[3])
	default:
		return d, false
	}
	return d, true
}

// deedsIn returns the deeds of a text, word by word, and whether it is one.
func deedsIn(o api.Observatory, text string) ([]api.Deed, bool) {
	var l []api.Deed
	for text != "" {
		line, rest, ok := strings.Cut(text, "\n")
		d, is := deedWith(strings.Split(line, " "))
		if !ok || !is || !validDeed(o, d) {
			return nil, false
		}
		l, text = append(l, d), rest
	}
	return l, len(l) <= 200
}

// P12.7: a text that was changed is read only if it is the text of deeds.
func TestParseOfChangedTexts(t *testing.T) {
	r := rand.New(rand.NewSource(5))
	ok := 0
	for n := range 12000 {
		l := sizes()[n%len(sizes())].begin(r)
		text := changed(r, textOf(l.writable(1+r.Intn(4))))
		if r.Intn(3) == 0 {
			text = changed(r, text)
		}
		deeds, is := deedsIn(l.o, text)
		if !is {
			parsed(t, l.o, text, nil, api.ErrForm)
			continue
		}
		ok++
		parsed(t, l.o, text, deeds, api.OK)
		written(t, l.o, deeds, text, api.OK)
	}
	if ok < 1000 || ok > 10000 {
		t.Error(ok)
	}
}
