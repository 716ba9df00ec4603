package mooring_test

import (
	"math"
	"math/rand"
	"slices"
	"testing"

	"isobath/api"
	"isobath/mooring"
)

// place is a cell, or a place beside the area.
type place struct{ x, y int64 }

// sought returns where an object may be after some hours, in increasing order,
// and whether it may have left.
func sought(a api.Area, start []int, l []api.Hour) ([]int, bool) {
	at, left := map[place]bool{}, false
	for _, cell := range start {
		at[place{int64(cell % a.Wide), int64(cell / a.Wide)}] = true
	}
	for _, h := range l {
		next := map[place]bool{}
		for p := range at {
			for e := h.East.Lo; e <= h.East.Hi; e++ {
				for n := h.North.Lo; n <= h.North.Hi; n++ {
					q := place{p.x + e, p.y + n}
					if q.x < 0 || q.y < 0 || q.x >= int64(a.Wide) || q.y >= int64(a.High) {
						left = true
					} else if !slices.Contains(h.Searched, int(q.y)*a.Wide+int(q.x)) {
						next[q] = true
					}
				}
			}
		}
		at = next
	}
	var cells []int
	for p := range at {
		cells = append(cells, int(p.y)*a.Wide+int(p.x))
	}
	slices.Sort(cells)
	return cells, left
}

// foundBy returns what the chapter says of Found.
func foundBy(a api.Area, start []int, l []api.Hour) (int, api.Errno) {
	if cells, left := sought(a, start, l); left || len(cells) > 0 {
		return 0, api.ErrNone
	}
	for n := 0; ; n++ {
		if cells, _ := sought(a, start, l[:n]); len(cells) == 0 {
			return n, api.OK
		}
	}
}

// someCells returns a strictly increasing list of cells.
func someCells(r *rand.Rand, a api.Area, one, of int) []int {
	var l []int
	for cell := range a.Wide * a.High {
		if r.Intn(of) < one {
			l = append(l, cell)
		}
	}
	return l
}

// someShift returns a span of drifts, most of them small.
func someShift(r *rand.Rand) api.Span {
	n := int64(1)
	if r.Intn(5) == 0 {
		n = api.MaxShift
	}
	x, y := r.Int63n(2*n+1)-n, r.Int63n(2*n+1)-n
	if r.Intn(2) == 0 {
		return span(0, 0)
	}
	return span(min(x, y), max(x, y))
}

// someSearch returns an area, cells to start from, and hours.
func someSearch(r *rand.Rand) (api.Area, []int, []api.Hour) {
	a := api.Area{Wide: 1 + r.Intn(6), High: 1 + r.Intn(6)}
	start := someCells(r, a, 1, 3)
	var l []api.Hour
	one := r.Intn(5)
	for range r.Intn(6) {
		l = append(l, api.Hour{East: someShift(r), North: someShift(r), Searched: someCells(r, a, one, 5)})
	}
	return a, start, l
}

// P2.7: the chapter's examples.
func TestSearchExamples(t *testing.T) {
	a := api.Area{Wide: 3, High: 1}
	l := []api.Hour{
		{East: span(0, 1), Searched: []int{0}},
		{Searched: []int{1}},
	}
	if cells, left, e := mooring.Where(a, []int{0}, l[:1]); e != api.OK || left || !slices.Equal(cells, []int{1}) {
		t.Error(cells, left, e)
	}
	if n, e := mooring.Found(a, []int{0}, l); n != 2 || e != api.OK {
		t.Error(n, e)
	}
	if n, e := mooring.Found(a, []int{0}, l[:1]); n != 0 || e != api.ErrNone {
		t.Error(n, e)
	}
}

// P2.7: the ways out of an area, and the cells beside which none is.
func TestLeaving(t *testing.T) {
	a := api.Area{Wide: 3, High: 4}
	for _, x := range []struct {
		name  string
		start []int
		l     []api.Hour
		want  []int
		left  bool
	}{
		{"no hour", []int{0, 4, 11}, nil, []int{0, 4, 11}, false},
		{"no cell", nil, []api.Hour{{East: span(-4, 4), North: span(-4, 4)}}, nil, false},
		{"still", []int{5}, []api.Hour{{}}, []int{5}, false},
		{"one to the east", []int{4}, []api.Hour{{East: span(1, 1)}}, []int{5}, false},
		{"one to the north", []int{4}, []api.Hour{{North: span(1, 1)}}, []int{7}, false},
		{"all around", []int{4}, []api.Hour{{East: span(-1, 1), North: span(-1, 1)}}, []int{0, 1, 2, 3, 4, 5, 6, 7, 8}, false},
		{"out to the east", []int{5}, []api.Hour{{East: span(1, 1)}}, nil, true},
		{"out to the west", []int{3}, []api.Hour{{East: span(-1, -1)}}, nil, true},
		{"out to the south", []int{2}, []api.Hour{{North: span(-1, -1)}}, nil, true},
		{"out to the north", []int{9}, []api.Hour{{North: span(1, 1)}}, nil, true},
		{"out in some ways", []int{5}, []api.Hour{{East: span(0, 1)}}, []int{5}, true},
		{"out, though in the other way in", []int{0}, []api.Hour{{East: span(-1, -1), North: span(1, 1)}}, nil, true},
		{"not back", []int{5}, []api.Hour{{East: span(1, 1)}, {East: span(-1, -1)}}, nil, true},
		{"out early, and still in", []int{5}, []api.Hour{{East: span(0, 1)}, {}, {}}, []int{5}, true},
		{"searched before it could leave", []int{4}, []api.Hour{{East: span(1, 1), Searched: []int{5}}, {East: span(1, 1)}}, nil, false},
		{"out of a cell that is searched then", []int{5}, []api.Hour{{East: span(0, 1), Searched: []int{5}}}, nil, true},
		{"searched where it comes from", []int{4}, []api.Hour{{East: span(1, 1), Searched: []int{4}}}, []int{5}, false},
		{"far", []int{0}, []api.Hour{{East: span(2, 2), North: span(3, 3)}}, []int{11}, false},
		{"too far", []int{0}, []api.Hour{{East: span(2, 2), North: span(4, 4)}}, nil, true},
	} {
		cells, left, e := mooring.Where(a, x.start, x.l)
		if e != api.OK || left != x.left || !slices.Equal(cells, x.want) {
			t.Error(x.name, cells, left, e)
		}
	}
}

// P2.7: after how many hours an object is found.
func TestFound(t *testing.T) {
	a := api.Area{Wide: 3, High: 1}
	all, none := api.Hour{Searched: []int{0, 1, 2}}, api.Hour{}
	out := api.Hour{East: span(1, 1)}
	for _, x := range []struct {
		name  string
		start []int
		l     []api.Hour
		want  int
		e     api.Errno
	}{
		{"nowhere, no hour", nil, nil, 0, api.OK},
		{"nowhere, hours", []int{}, []api.Hour{out, all}, 0, api.OK},
		{"no hour", []int{1}, nil, 0, api.ErrNone},
		{"first hour", []int{0, 2}, []api.Hour{all}, 1, api.OK},
		{"first of two hours", []int{0, 2}, []api.Hour{all, none}, 1, api.OK},
		{"last of three hours", []int{1}, []api.Hour{none, none, all}, 3, api.OK},
		{"not searched", []int{1}, []api.Hour{none, none}, 0, api.ErrNone},
		{"left, nowhere else", []int{2}, []api.Hour{out}, 0, api.ErrNone},
		{"left, then all searched", []int{0, 2}, []api.Hour{out, all}, 0, api.ErrNone},
		{"left in the hour of the search", []int{1, 2}, []api.Hour{{East: span(1, 1), Searched: []int{2}}}, 0, api.ErrNone},
		{"found before it leaves", []int{0, 2}, []api.Hour{all, out}, 1, api.OK},
		{"in two parts", []int{0, 1, 2}, []api.Hour{{Searched: []int{0}}, {Searched: []int{2}}, {Searched: []int{1}}, none}, 3, api.OK},
	} {
		if n, e := mooring.Found(a, x.start, x.l); n != x.want || e != x.e {
			t.Error(x.name, n, e)
		}
	}
}

// P2.7: Where and Found are those that the chapter defines.
func TestSearches(t *testing.T) {
	r := rand.New(rand.NewSource(3))
	found := 0
	for range 6000 {
		a, start, l := someSearch(r)
		want, out := sought(a, start, l)
		cells, left, e := mooring.Where(a, start, l)
		if e != api.OK || left != out || !slices.Equal(cells, want) {
			t.Fatal(a, start, l, "gives", cells, left, e, "not", want, out)
		}
		n, f := foundBy(a, start, l)
		if m, e := mooring.Found(a, start, l); m != n || e != f {
			t.Fatal(a, start, l, "gives", m, e, "not", n, f)
		}
		if f == api.OK && n > 1 {
			found++
		}
	}
	if found < 50 {
		t.Error("too few searches found the object later than in the first hour:", found)
	}
}

// P2.7: the greatest area, as many hours as there can be, and the widest drift.
func TestSearchAtLimits(t *testing.T) {
	a := api.Area{Wide: api.MaxSide, High: api.MaxSide}
	all := someCells(rand.New(rand.NewSource(1)), a, 1, 1)
	wide := span(-api.MaxShift, api.MaxShift)
	l := slices.Repeat([]api.Hour{{East: wide, North: wide}}, api.MaxHours)
	if cells, left, e := mooring.Where(a, all, l); e != api.OK || !left || !slices.Equal(cells, all) {
		t.Error(cells, left, e)
	}
	l = slices.Repeat([]api.Hour{{}}, api.MaxHours)
	l[api.MaxHours-1].Searched = all
	if n, e := mooring.Found(a, all, l); n != api.MaxHours || e != api.OK {
		t.Error(n, e)
	}
	one := api.Area{Wide: 1, High: 1}
	if cells, left, e := mooring.Where(one, []int{0}, []api.Hour{{East: span(-1, 1)}}); e != api.OK || !left || !slices.Equal(cells, []int{0}) {
		t.Error(cells, left, e)
	}
}

// badLists returns lists that are not strictly increasing ones of six cells.
func badLists() [][]int {
	return [][]int{
		{-1}, {6}, {0, 6}, {-1, 0}, {2, 1}, {3, 3}, {0, 1, 1}, {0, 2, 1}, {5, 0},
		{math.MinInt}, {math.MaxInt}, {0, math.MaxInt}, {math.MinInt, 0},
	}
}

// badShifts returns spans that are not of drifts.
func badShifts() []api.Span {
	return []api.Span{
		span(1, 0), span(4, -4), span(-5, 0), span(0, 5), span(5, 5), span(-5, -5), span(-5, 5),
		span(math.MinInt64, 0), span(0, math.MaxInt64), span(math.MinInt64, math.MaxInt64),
		span(math.MaxInt64, math.MinInt64), span(math.MinInt64, math.MinInt64), span(math.MaxInt64, math.MaxInt64),
	}
}

// P2.7, R1 and R2: searches that are not valid, and too many hours first.
func TestBadSearches(t *testing.T) {
	bad := func(a api.Area, start []int, l []api.Hour, want api.Errno) {
		t.Helper()
		if cells, left, e := mooring.Where(a, start, l); len(cells) != 0 || left || e != want {
			t.Error(a, start, l, cells, left, e)
		}
		if n, e := mooring.Found(a, start, l); n != 0 || e != want {
			t.Error(a, start, l, n, e)
		}
	}
	good := api.Area{Wide: 3, High: 2}
	many := make([]api.Hour, api.MaxHours+1)
	bad(good, []int{0}, many, api.ErrMany)
	bad(good, []int{9}, many, api.ErrMany)
	many[3].East = span(2, 1)
	bad(api.Area{}, []int{0}, many, api.ErrMany)
	for _, n := range []int{0, -1, api.MaxSide + 1, math.MinInt, math.MaxInt} {
		for _, a := range []api.Area{{Wide: n, High: 2}, {Wide: 2, High: n}, {Wide: n, High: n}} {
			bad(a, nil, nil, api.ErrArg)
			bad(a, []int{0}, []api.Hour{{Searched: []int{0}}}, api.ErrArg)
		}
	}
	for _, l := range badLists() {
		bad(good, l, nil, api.ErrArg)
		bad(good, []int{0}, []api.Hour{{Searched: l}}, api.ErrArg)
		bad(good, nil, []api.Hour{{}, {Searched: l}}, api.ErrArg)
	}
	for _, s := range badShifts() {
		bad(good, []int{0}, []api.Hour{{East: s}}, api.ErrArg)
		bad(good, []int{0}, []api.Hour{{North: s}}, api.ErrArg)
		// An hour has to be valid also after the object has been found.
		bad(good, nil, []api.Hour{{}, {East: s}}, api.ErrArg)
		bad(good, nil, []api.Hour{{}, {North: s}}, api.ErrArg)
	}
}

// drift lets an object drift for some hours, and returns the cell where it is
// after each; it stops where it is found, or leaves.
func drift(r *rand.Rand, a api.Area, at int, l []api.Hour) (cells []int, left bool) {
	x, y := int64(at%a.Wide), int64(at/a.Wide)
	for _, h := range l {
		x += h.East.Lo + r.Int63n(h.East.Hi-h.East.Lo+1)
		y += h.North.Lo + r.Int63n(h.North.Hi-h.North.Lo+1)
		if x < 0 || y < 0 || x >= int64(a.Wide) || y >= int64(a.High) {
			return cells, true
		}
		cell := int(y)*a.Wide + int(x)
		if slices.Contains(h.Searched, cell) {
			return cells, false
		}
		cells = append(cells, cell)
	}
	return cells, false
}

// P2.13: an object that drifts is in one of the cells of Where, or has left;
// after the hours of Found it has been found.
func TestDrifting(t *testing.T) {
	r := rand.New(rand.NewSource(13))
	for range 3000 {
		a, start, l := someSearch(r)
		found, e := mooring.Found(a, start, l)
		for _, at := range start {
			cells, left := drift(r, a, at, l)
			for i, cell := range cells {
				may, _, _ := mooring.Where(a, start, l[:i+1])
				if !slices.Contains(may, cell) {
					t.Fatal(a, start, l, at, cells, may)
				}
			}
			if _, out, _ := mooring.Where(a, start, l); left && !out {
				t.Fatal(a, start, l, at, cells)
			}
			if e == api.OK && (left || len(cells) >= found) {
				t.Fatal(a, start, l, at, cells, left, found)
			}
		}
	}
}

// P2.13: to search more cells never adds a cell.
func TestMoreSearched(t *testing.T) {
	r := rand.New(rand.NewSource(14))
	for range 3000 {
		a, start, l := someSearch(r)
		before, out, _ := mooring.Where(a, start, l)
		for i := range l {
			more := append(slices.Clone(l[i].Searched), someCells(r, a, 1, 4)...)
			slices.Sort(more)
			l[i].Searched = slices.Compact(more)
		}
		after, left, e := mooring.Where(a, start, l)
		for _, cell := range after {
			if !slices.Contains(before, cell) {
				t.Fatal(a, start, l, before, after)
			}
		}
		if left && !out || e != api.OK {
			t.Fatal(a, start, l, e)
		}
	}
}

// R5: a search changes none of its arguments, and its cells are a new list.
func TestSearchShares(t *testing.T) {
	a, start := api.Area{Wide: 3, High: 2}, []int{1, 4}
	l := []api.Hour{{East: span(0, 1), Searched: []int{1, 2}}}
	for n := range 2 {
		cells, _, _ := mooring.Where(a, start, l[:n])
		mooring.Found(a, start, l[:n])
		cells[0] = 77
		if !slices.Equal(start, []int{1, 4}) || !slices.Equal(l[0].Searched, []int{1, 2}) || l[0].East != span(0, 1) {
			t.Error(start, l)
		}
	}
	if cells, left, e := mooring.Where(a, start, l); e != api.OK || left || !slices.Equal(cells, []int{4, 5}) {
		t.Error(cells, left, e)
	}
}
