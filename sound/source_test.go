package sound_test

import (
	"math"
	"math/rand"
	"slices"
	"testing"

	"isobath/api"
	"isobath/sound"
)

// P7.3 to P7.5: the chapter's examples.
func TestExamplesOfSources(t *testing.T) {
	n, a, home := example(), exampleArrivals(), point(0, 0)
	if e := sound.CheckNet(n); e != api.OK {
		t.Error(e)
	}
	for station, want := range []api.Span{exactly(0), exactly(2000), span(2666, 2667)} {
		x, e := sound.Travel(n, home, station)
		same(t, station, x, e, want, api.OK)
	}
	o, e := sound.Origin(n, a, home)
	same(t, "Origin", o, e, exactly(100), api.OK)
	i, k, e := sound.Excluded(n, a, point(3000, 4000))
	same(t, "Excluded", [2]int{i, k}, e, [2]int{0, 1}, api.OK)
	if e := sound.CheckExcluded(n, a, point(3000, 4000), 0, 1); e != api.OK {
		t.Error(e)
	}
}

// P7.3: how many stations a net has, and which of them are not valid.
func TestCheckNetStations(t *testing.T) {
	for many := range 20 {
		want := api.ErrArg
		if 2 <= many && many <= 8 {
			want = api.OK
		}
		n := api.Net{Stations: slices.Repeat([]api.Box{box(-place, place, 0, 1)}, many), Speed: span(1, 20000)}
		if e := sound.CheckNet(n); e != want {
			t.Error(many, e)
		}
	}
	if e := sound.CheckNet(api.Net{}); e != api.ErrArg {
		t.Error(e)
	}
	for _, b := range badBoxes() {
		for at := range 3 {
			n := example()
			n.Stations[at] = b
			if e := sound.CheckNet(n); e != api.ErrArg {
				t.Error(b, e)
			}
		}
	}
}

// P7.3: which speeds there are.
func TestCheckNetSpeed(t *testing.T) {
	n := example()
	for _, a := range []api.Span{span(1, 1), span(1, 2), span(1, 20000), span(20000, 20000), span(19999, 20000), span(1500, 1501)} {
		n.Speed = a
		if e := sound.CheckNet(n); e != api.OK {
			t.Error(a, e)
		}
	}
	bad := append(badSpans(), badTimes()...)
	bad = append(bad, exactly(0), span(0, 1), span(0, 20000), span(-1, 5), exactly(-1), span(1, 20001), exactly(20001), span(2, 1), span(20000, 19999))
	for _, a := range bad {
		n.Speed = a
		if e := sound.CheckNet(n); e != api.ErrArg {
			t.Error(a, e)
		}
		x, e := sound.Travel(n, point(0, 0), 0)
		same(t, a, x, e, api.Span{}, api.ErrArg)
	}
}

// P7.3: travel times by hand, rounded outward, up to the farthest and slowest.
func TestTravel(t *testing.T) {
	for _, x := range []struct {
		from, to api.Box
		speed    api.Span
		want     api.Span
	}{
		{point(0, 0), point(0, 0), span(1, 20000), span(0, 0)},
		{point(0, 0), point(3, 4), exactly(1), span(5000, 5000)},
		{point(0, 0), point(3, 4), exactly(3), span(1666, 1667)},
		{point(0, 0), point(3, 4), exactly(5000), span(1, 1)},
		{point(0, 0), point(3, 4), exactly(5001), span(0, 1)},
		{point(0, 0), point(3, 4), exactly(4999), span(1, 2)},
		{point(0, 0), point(3, 4), exactly(20000), span(0, 1)},
		{point(0, 0), point(3, 4), span(2, 4), span(1250, 2500)},
		{point(0, 0), point(3, 4), span(3, 7), span(714, 1667)},
		{point(-3, -4), point(0, 0), span(3, 7), span(714, 1667)},
		// The root of 2 is rounded outward before it is divided.
		{point(0, 0), point(1, 1), exactly(1), span(1000, 2000)},
		{point(0, 0), point(1, 1), exactly(1000), span(1, 2)},
		{box(0, 10, 0, 10), point(5, 5), exactly(1), span(0, 8000)},
		{box(0, 10, 0, 10), box(13, 14, 14, 15), exactly(10), span(500, 2100)},
		{box(-place, -place, -place, -place), box(place, place, place, place), exactly(1), span(759250124000, 759250125000)},
		{box(-place, place, -place, place), box(-place, place, -place, place), span(1, 20000), span(0, 759250125000)},
		{point(-place, 0), point(place, 0), exactly(1), span(1000<<29, 1000<<29)},
	} {
		for station := range 2 {
			n := api.Net{Stations: []api.Box{point(77, 77), point(77, 77), point(-77, 77)}, Speed: x.speed}
			n.Stations[station] = x.to
			got, e := sound.Travel(n, x.from, station)
			same(t, x, got, e, x.want, api.OK)
			n.Stations[station] = x.from
			got, e = sound.Travel(n, x.to, station)
			same(t, x, got, e, x.want, api.OK)
		}
	}
}

// P7.3: Travel agrees with the definition, near and far.
func TestTravelIsDefined(t *testing.T) {
	r := rand.New(rand.NewSource(4))
	for range 5000 {
		far := []int64{5, 1000, place}[r.Intn(3)]
		n := someNet(r, 8, far, far)
		b := someBox(r, far, far)
		for station, s := range n.Stations {
			x, e := sound.Travel(n, b, station)
			same(t, b, x, e, travelOf(n.Speed, b, s), api.OK)
		}
	}
}

// P7.3: boxes that are not valid, and stations that are not there.
func TestTravelErrors(t *testing.T) {
	for _, b := range badBoxes() {
		for _, station := range []int{0, 3} {
			x, e := sound.Travel(example(), b, station)
			same(t, b, x, e, api.Span{}, api.ErrArg)
		}
	}
	for _, station := range []int{-1, 3, 4, 8, math.MinInt, math.MaxInt} {
		x, e := sound.Travel(example(), point(0, 0), station)
		same(t, station, x, e, api.Span{}, api.ErrRange)
	}
	for _, station := range []int{0, 1, 2} {
		if _, e := sound.Travel(example(), point(0, 0), station); e != api.OK {
			t.Error(station, e)
		}
	}
}

// line returns a net of stations along a line, 1 km apart, between which sound
// takes a second.
func line(stations int) api.Net {
	n := api.Net{Speed: exactly(1000)}
	for i := range stations {
		n.Stations = append(n.Stations, point(1000*int64(i), 0))
	}
	return n
}

// P7.4: origins that have much, one number, or nothing in common.
func TestOrigin(t *testing.T) {
	for _, x := range []struct {
		a    []api.Span
		at   int64
		want api.Span
		e    api.Errno
	}{
		{[]api.Span{span(0, 10), span(1000, 1010)}, 0, span(0, 10), api.OK},
		{[]api.Span{span(0, 10), span(1005, 1015)}, 0, span(5, 10), api.OK},
		{[]api.Span{span(0, 10), span(995, 1005)}, 0, span(0, 5), api.OK},
		{[]api.Span{span(0, 10), span(1002, 1003)}, 0, span(2, 3), api.OK},
		{[]api.Span{span(0, 10), span(1010, 1015)}, 0, exactly(10), api.OK},
		{[]api.Span{span(0, 10), span(990, 1000)}, 0, exactly(0), api.OK},
		{[]api.Span{span(0, 10), span(1011, 1015)}, 0, api.Span{}, api.ErrNone},
		{[]api.Span{span(0, 10), span(989, 999)}, 0, api.Span{}, api.ErrNone},
		{[]api.Span{span(0, 10), span(1000, 1010)}, 1, span(1, 9), api.OK},
		{[]api.Span{span(0, 10), span(0, 10)}, 500, span(-500, -490), api.OK},
		{[]api.Span{span(0, 10), span(1000, 1010), span(2007, 2009), span(2999, 3008)}, 0, span(7, 8), api.OK},
		{[]api.Span{span(0, 10), span(1000, 1010), span(2007, 2009), span(2999, 3006)}, 0, api.Span{}, api.ErrNone},
		{[]api.Span{exactly(instant), exactly(instant)}, 500, exactly(instant - 500), api.OK},
		{[]api.Span{exactly(-instant), exactly(-instant)}, 500, exactly(-instant - 500), api.OK},
		{[]api.Span{span(-instant, instant), span(-instant, instant)}, 0, span(-instant, instant-1000), api.OK},
		{[]api.Span{exactly(-instant), exactly(instant)}, 0, api.Span{}, api.ErrNone},
	} {
		o, e := sound.Origin(line(len(x.a)), x.a, point(x.at, 0))
		same(t, x, o, e, x.want, x.e)
	}
}

// P7.4: the travel time is a span where the box, the station or the speed is.
func TestOriginOfBox(t *testing.T) {
	n := api.Net{Stations: []api.Box{box(0, 10, 0, 0), point(1000, 0)}, Speed: span(500, 1000)}
	early, wide := point(100, 0), box(-100, 100, 0, 0)
	for _, x := range []struct {
		first, second api.Span
		b             api.Box
		want          api.Span
		e             api.Errno
	}{
		// From 90 to 200 ms, and from 900 to 1800 ms.
		{span(100, 200), exactly(1900), early, span(100, 110), api.OK},
		{span(100, 200), exactly(1910), early, exactly(110), api.OK},
		{span(100, 200), exactly(1911), early, api.Span{}, api.ErrNone},
		{span(100, 200), exactly(1010), early, span(-100, 110), api.OK},
		{span(100, 200), exactly(1000), early, span(-100, 100), api.OK},
		{span(100, 200), exactly(800), early, exactly(-100), api.OK},
		{span(100, 200), exactly(799), early, api.Span{}, api.ErrNone},
		{span(100, 1200), exactly(2000), early, span(200, 1100), api.OK},
		// Until 220 ms, and from 900 to 2200 ms.
		{exactly(0), exactly(1000), wide, span(-220, 0), api.OK},
		{exactly(0), exactly(700), wide, span(-220, -200), api.OK},
		{exactly(0), exactly(679), wide, api.Span{}, api.ErrNone},
		{exactly(0), exactly(2200), wide, exactly(0), api.OK},
		{exactly(0), exactly(2201), wide, api.Span{}, api.ErrNone},
	} {
		o, e := sound.Origin(n, []api.Span{x.first, x.second}, x.b)
		same(t, x, o, e, x.want, x.e)
	}
}

// P7.5 and P7.11: which pair is returned of several ones.
func TestExcluded(t *testing.T) {
	for _, x := range []struct {
		origins []api.Span
		i, k    int
		e       api.Errno
	}{
		{[]api.Span{span(0, 10), span(10, 20)}, 0, 0, api.ErrNone},
		{[]api.Span{span(0, 10), span(11, 20)}, 0, 1, api.OK},
		{[]api.Span{span(11, 20), span(0, 10)}, 0, 1, api.OK},
		{[]api.Span{span(0, 10), span(5, 15), span(11, 20)}, 0, 2, api.OK},
		{[]api.Span{span(0, 30), span(5, 15), span(16, 20)}, 1, 2, api.OK},
		{[]api.Span{span(0, 10), span(5, 15), span(16, 20)}, 0, 2, api.OK},
		{[]api.Span{span(0, 10), span(20, 30), span(40, 50), span(60, 70)}, 0, 1, api.OK},
		// (1, 2) comes before (0, 3), and (0, 3) before (1, 3).
		{[]api.Span{span(5, 25), span(0, 22), span(25, 45), span(40, 50)}, 1, 2, api.OK},
		{[]api.Span{span(5, 25), span(0, 20), span(0, 99), span(40, 50)}, 0, 3, api.OK},
		{[]api.Span{span(0, 99), span(20, 30), span(5, 25), span(0, 99), span(25, 45), span(40, 50)}, 1, 5, api.OK},
		{[]api.Span{span(0, 9), span(0, 9), span(0, 9), span(0, 9), span(0, 9), span(0, 9), span(9, 9), span(8, 8)}, 6, 7, api.OK},
		{[]api.Span{span(0, 9), span(0, 9), span(0, 9), span(0, 9), span(0, 9), span(0, 9), span(9, 9), span(9, 9)}, 0, 0, api.ErrNone},
	} {
		n, a := line(len(x.origins)), slices.Clone(x.origins)
		for i := range a {
			a[i].Lo, a[i].Hi = a[i].Lo+1000*int64(i), a[i].Hi+1000*int64(i)
		}
		i, k, e := sound.Excluded(n, a, point(0, 0))
		same(t, x, [2]int{i, k}, e, [2]int{x.i, x.k}, x.e)
		for i := range a {
			for k := range a {
				want := api.ErrSum
				if _, exists := commonOf(x.origins[i], x.origins[k]); !exists {
					want = api.OK
				}
				if e := sound.CheckExcluded(n, a, point(0, 0), i, k); e != want {
					t.Error(x, i, k, e)
				}
			}
		}
	}
}

// P7.5: stations that are not there.
func TestCheckExcludedRange(t *testing.T) {
	n, a := example(), exampleArrivals()
	for _, b := range []api.Box{point(0, 0), point(3000, 4000)} {
		for _, wrong := range []int{-1, 3, 4, 8, math.MinInt, math.MaxInt} {
			for _, right := range []int{0, 1, 2, wrong} {
				if e := sound.CheckExcluded(n, a, b, wrong, right); e != api.ErrRange {
					t.Error(wrong, right, e)
				}
				if e := sound.CheckExcluded(n, a, b, right, wrong); e != api.ErrRange {
					t.Error(right, wrong, e)
				}
			}
		}
	}
}

// P7.4 to P7.6: arrivals that are not as many as the stations, or not possible,
// and boxes that are not valid.
func TestArrivalErrors(t *testing.T) {
	fails := func(n api.Net, a []api.Span, b api.Box, want api.Errno) {
		t.Helper()
		o, e := sound.Origin(n, a, b)
		same(t, "Origin", o, e, api.Span{}, want)
		i, k, e := sound.Excluded(n, a, b)
		same(t, "Excluded", [2]int{i, k}, e, [2]int{}, want)
		for _, i := range []int{0, 99} {
			if e := sound.CheckExcluded(n, a, b, i, 1); e != want {
				t.Fatal("CheckExcluded", e)
			}
		}
		for _, depth := range []int{0, 3, 99} {
			l, e := sound.Region(n, a, b, depth)
			equal(t, "Region", l, e, nil, want)
		}
	}
	for _, many := range []int{0, 1, 2, 4, 8, 9, 300} {
		fails(example(), always(many), point(0, 0), api.ErrEqual)
		fails(example(), slices.Repeat([]api.Span{span(2, 1)}, many), point(0, 0), api.ErrEqual)
	}
	fails(api.Net{}, nil, point(0, 0), api.ErrArg)
	fails(line(9), always(9), point(0, 0), api.ErrArg)
	for _, x := range badTimes() {
		for at := range 3 {
			a := exampleArrivals()
			a[at] = x
			fails(example(), a, point(0, 0), api.ErrArg)
		}
	}
	for _, b := range badBoxes() {
		fails(example(), exampleArrivals(), b, api.ErrArg)
		fails(example(), always(2), b, api.ErrEqual)
	}
	o, e := sound.Origin(example(), always(3), point(0, 0))
	same(t, "at the limits", o, e, span(-instant, instant-2666), api.OK)
}

// P7.4, P7.5 and P7.11: origins, pairs and what CheckExcluded accepts agree with
// the definitions.
func TestOriginsAreDefined(t *testing.T) {
	r := rand.New(rand.NewSource(5))
	many := map[api.Errno]int{}
	for range 6000 {
		far := []int64{50, 5000, place}[r.Intn(3)]
		n := someNet(r, 8, far, far/5)
		a := someArrivals(r, n, someBox(r, far, far/5))
		b := someBox(r, far, far)
		want, wantErr := originOf(n, a, b)
		o, e := sound.Origin(n, a, b)
		same(t, b, o, e, want, wantErr)
		many[e]++
		i, k, e := sound.Excluded(n, a, b)
		wantI, wantK, wantErr := pairOf(n, a, b)
		same(t, b, [2]int{i, k}, e, [2]int{wantI, wantK}, wantErr)
		many[e]++
		l := originsOf(n, a, b)
		for i := range l {
			for k := range l {
				want := api.OK
				if _, exists := commonOf(l[i], l[k]); exists {
					want = api.ErrSum
				}
				if e := sound.CheckExcluded(n, a, b, i, k); e != want {
					t.Fatal(n, a, b, i, k, e)
				}
			}
		}
	}
	if many[api.OK] != 6000 || many[api.ErrNone] != 6000 {
		t.Error(many)
	}
}

// P7.11: a box is excluded just if Excluded returns a pair, which CheckExcluded
// accepts; and so is a part of it, by the same pair.
func TestExclusion(t *testing.T) {
	r := rand.New(rand.NewSource(6))
	excluded := 0
	for range 4000 {
		n := someNet(r, 5, 5000, 500)
		a := someArrivals(r, n, someBox(r, 5000, 100))
		b := someBox(r, 5000, 3000)
		_, first := sound.Origin(n, a, b)
		i, k, e := sound.Excluded(n, a, b)
		if (first == api.ErrNone) != (e == api.OK) || first != api.OK && first != api.ErrNone {
			t.Fatal(n, a, b, first, e)
		}
		if e != api.OK {
			continue
		}
		excluded++
		if i >= k || sound.CheckExcluded(n, a, b, i, k) != api.OK || sound.CheckExcluded(n, a, b, k, i) != api.OK {
			t.Fatal(n, a, b, i, k)
		}
		part := smaller(r, b)
		if e := sound.CheckExcluded(n, a, part, i, k); e != api.OK {
			t.Fatal(n, a, b, part, i, k, e)
		}
		if _, e := sound.Origin(n, a, part); e != api.ErrNone {
			t.Fatal(n, a, b, part, e)
		}
	}
	if excluded < 1000 {
		t.Error(excluded)
	}
}

// G1, for P7.3 and P7.4: with narrower bounds no travel time and no origin is
// wider.
func TestNarrowerNets(t *testing.T) {
	r := rand.New(rand.NewSource(7))
	many := 0
	for range 4000 {
		n := someNet(r, 5, 5000, 500)
		b := someBox(r, 5000, 1000)
		a := someArrivals(r, n, b)
		less := api.Net{Speed: narrower(r, n.Speed), Stations: each(n.Stations, func(b api.Box) api.Box { return smaller(r, b) })}
		part, sooner := smaller(r, b), each(a, func(a api.Span) api.Span { return narrower(r, a) })
		for station := range n.Stations {
			wide, _ := sound.Travel(n, b, station)
			narrow, _ := sound.Travel(less, part, station)
			if !contains(wide, narrow) || narrow.Lo > narrow.Hi {
				t.Fatal(n, less, b, part, wide, narrow)
			}
		}
		narrow, e := sound.Origin(less, sooner, part)
		if e == api.ErrNone {
			continue
		}
		many++
		if wide, f := sound.Origin(n, a, b); e != api.OK || f != api.OK || !contains(wide, narrow) {
			t.Fatal(n, less, b, part, wide, narrow)
		}
	}
	if many < 1000 {
		t.Error(many)
	}
}

// G1, for P7.3: what travels from a place to another one at a speed within the
// bounds takes a time within the travel time.
func TestTravelEncloses(t *testing.T) {
	r := rand.New(rand.NewSource(8))
	for range 4000 {
		far := []int64{5, 5000, place}[r.Intn(3)]
		n := someNet(r, 4, far, far/3)
		b := someBox(r, far, far/3)
		for station, s := range n.Stations {
			x, _ := sound.Travel(n, b, station)
			for range 5 {
				if y := around(arrives(0, someSpot(r, b), someSpot(r, s), someTruth(r, n.Speed))); !contains(x, y) {
					t.Fatal(n, b, station, x, y)
				}
			}
		}
	}
}
