package field_test

import (
	"math/rand"
	"slices"
	"testing"

	"isobath/api"
	"isobath/field"
)

const (
	most  = api.MaxValue
	slope = api.MaxSlope
	end   = 1 << 24
)

func span(lo, hi int64) api.Span { return api.Span{Lo: lo, Hi: hi} }

func spot(moment, cell int) api.Spot { return api.Spot{Moment: moment, Cell: cell} }

func seen(moment, cell int, lo, hi int64) api.Seen {
	return api.Seen{Spot: spot(moment, cell), Set: span(lo, hi)}
}

// sea is a field with observations.
type sea struct {
	f api.Field
	l []api.Seen
}

// clone returns a sea that shares no memory with another one.
func (s sea) clone() sea { return sea{s.f, slices.Clone(s.l)} }

// with returns a sea with further observations.
func (s sea) with(l ...api.Seen) sea { return sea{s.f, append(slices.Clone(s.l), l...)} }

// example returns the field of the chapter's examples, with the observations that
// do not contradict each other.
func example() sea {
	return sea{
		api.Field{Wide: 3, High: 1, Last: 1, Range: span(0, 100), Space: 10, Change: 5},
		[]api.Seen{seen(0, 0, 20, 30), seen(1, 2, 45, 70)},
	}
}

// greatest returns the greatest field, without observations.
func greatest() sea {
	return sea{f: api.Field{Wide: 8, High: 8, Last: 7, Range: span(-end, end), Space: slope, Change: slope}}
}

// Parts of questions.

func above(a api.Spot, limit int64) api.Part {
	return api.Part{Kind: api.AskAbove, A: a, Limit: limit}
}

func more(a, b api.Spot, limit int64) api.Part {
	return api.Part{Kind: api.AskMore, A: a, B: b, Limit: limit}
}

func inRegion(moment int, region []int, limit int64) api.Part {
	return api.Part{Kind: api.AskRegion, A: spot(moment, 0), Region: region, Limit: limit}
}

func part(kind int) api.Part { return api.Part{Kind: kind} }

// equal compares a list that a function returns, and its error, with those that
// are wanted.
func equal[T comparable](t *testing.T, name any, got []T, e api.Errno, want []T, wantErr api.Errno) {
	t.Helper()
	if !slices.Equal(got, want) || e != wantErr {
		t.Fatalf("%v: %v, %v; want %v, %v", name, got, e, want, wantErr)
	}
}

// same compares what a function returns, and its error, with what is wanted.
func same[T comparable](t *testing.T, name any, got T, e api.Errno, want T, wantErr api.Errno) {
	t.Helper()
	if got != want || e != wantErr {
		t.Fatalf("%v: %v, %v; want %v, %v", name, got, e, want, wantErr)
	}
}

// The chapter's definitions, as they are written.

// spots returns all spots, by their numbers.
func (s sea) spots() []api.Spot {
	var l []api.Spot
	for moment := 0; moment <= s.f.Last; moment++ {
		for cell := 0; cell < s.f.Wide*s.f.High; cell++ {
			l = append(l, spot(moment, cell))
		}
	}
	return l
}

// number returns the number of a spot.
func (s sea) number(a api.Spot) int { return slices.Index(s.spots(), a) }

func apart(a, b int) int64 {
	if a < b {
		return int64(b - a)
	}
	return int64(a - b)
}

// far returns the distance of two spots.
func (s sea) far(a, b api.Spot) int64 {
	columns := apart(a.Cell%s.f.Wide, b.Cell%s.f.Wide)
	rows := apart(a.Cell/s.f.Wide, b.Cell/s.f.Wide)
	return s.f.Space*(columns+rows) + s.f.Change*apart(a.Moment, b.Moment)
}

// possible tells whether values are possible: it looks at all pairs of spots.
func (s sea) possible(v []int64) bool {
	l := s.spots()
	for i, x := range v {
		if x < s.f.Range.Lo || x > s.f.Range.Hi {
			return false
		}
		for k, y := range v {
			if x-y > s.far(l[i], l[k]) {
				return false
			}
		}
	}
	return true
}

// fits tells whether values fit the observations.
func (s sea) fits(v []int64) bool {
	for _, o := range s.l {
		x := v[s.number(o.Spot)]
		if x < o.Set.Lo || x > o.Set.Hi {
			return false
		}
	}
	return s.possible(v)
}

// contradict returns what Contradict returns.
func (s sea) contradict() (int, int, api.Errno) {
	for i, o := range s.l {
		if o.Set.Hi < s.f.Range.Lo || o.Set.Lo > s.f.Range.Hi {
			return i, i, api.OK
		}
	}
	for i, a := range s.l {
		for k, b := range s.l {
			if a.Set.Lo > b.Set.Hi+s.far(a.Spot, b.Spot) {
				return i, k, api.OK
			}
		}
	}
	return 0, 0, api.ErrNone
}

// consistent tells whether the observations are consistent.
func (s sea) consistent() bool {
	_, _, e := s.contradict()
	return e == api.ErrNone
}

// common returns the common part of two spans.
func common(a, b api.Span) api.Span { return span(max(a.Lo, b.Lo), min(a.Hi, b.Hi)) }

// set returns the set of a spot.
func (s sea) set(a api.Spot) api.Span {
	set := s.f.Range
	for _, o := range s.l {
		d := s.far(a, o.Spot)
		set = common(set, span(o.Set.Lo-d, o.Set.Hi+d))
	}
	return set
}

// sets returns the sets of all spots.
func (s sea) sets() []api.Span {
	var l []api.Span
	for _, a := range s.spots() {
		l = append(l, s.set(a))
	}
	return l
}

// content returns the content of a region.
func (s sea) content(region []int, moment int) api.Span {
	sum := span(0, 0)
	for _, c := range region {
		set := s.set(spot(moment, c))
		sum = span(sum.Lo+set.Lo, sum.Hi+set.Hi)
	}
	return sum
}

// change returns the change of a region.
func (s sea) change(region []int, t, u int) api.Span {
	sum, w := span(0, 0), s.f.Change*int64(u-t)
	for _, c := range region {
		before, after := s.set(spot(t, c)), s.set(spot(u, c))
		sum.Lo += max(after.Lo-before.Hi, -w)
		sum.Hi += min(after.Hi-before.Lo, w)
	}
	return sum
}

// rest returns the rest of a budget.
func (s sea) rest(b api.Budget) api.Span {
	rest := s.change(b.Region, b.From, b.To)
	for _, x := range b.Fluxes {
		rest = span(rest.Lo-x.Hi, rest.Hi-x.Lo)
	}
	return rest
}

// isAbove returns whether what is in a span is greater than a limit.
func isAbove(s api.Span, limit int64) api.Answer {
	switch {
	case s.Lo > limit:
		return api.Yes
	case s.Hi <= limit:
		return api.No
	}
	return api.Open
}

// single returns the answer of a part that needs no others.
func (s sea) single(p api.Part) api.Answer {
	switch p.Kind {
	case api.AskAbove:
		return isAbove(s.set(p.A), p.Limit)
	case api.AskMore:
		a, b, d := s.set(p.A), s.set(p.B), s.far(p.A, p.B)
		return isAbove(common(span(a.Lo-b.Hi, a.Hi-b.Lo), span(-d, d)), p.Limit)
	}
	return isAbove(s.content(p.Region, p.A.Moment), p.Limit)
}

// needs is how many answers a part of each kind needs.
var needs = map[int]int{api.AskNot: 1, api.AskAll: 2, api.AskAny: 2}

// ask returns the answer to a question with valid parts.
func (s sea) ask(q []api.Part) (api.Answer, api.Errno) {
	var stack []api.Answer
	for _, p := range q {
		n := len(stack) - needs[p.Kind]
		if n < 0 {
			return api.No, api.ErrRule
		}
		x := api.No
		switch p.Kind {
		case api.AskNot:
			x = 2 - stack[n]
		case api.AskAll:
			x = min(stack[n], stack[n+1])
		case api.AskAny:
			x = max(stack[n], stack[n+1])
		default:
			x = s.single(p)
		}
		stack = append(slices.Clone(stack[:n]), x)
	}
	if len(stack) != 1 {
		return api.No, api.ErrRule
	}
	return stack[0], api.OK
}

// promised returns what an observation promises.
func (s sea) promised(a api.Spot, e int64) int64 {
	sum := int64(0)
	for _, b := range s.spots() {
		set := s.set(b)
		sum += min(set.Hi-set.Lo, e+2*s.far(a, b))
	}
	return sum
}

// values returns all values that fit the observations: it tries all numbers.
func (s sea) values() [][]int64 {
	n := len(s.spots())
	var found [][]int64
	v := make([]int64, n)
	var try func(k int)
	try = func(k int) {
		if k == n {
			if s.fits(v) {
				found = append(found, slices.Clone(v))
			}
			return
		}
		for x := s.f.Range.Lo; x <= s.f.Range.Hi; x++ {
			v[k] = x
			try(k + 1)
		}
	}
	try(0)
	return found
}

// holds tells whether a question with an answer is true of values.
func (s sea) holds(q []api.Part, v []int64) bool {
	var stack []bool
	for _, p := range q {
		n := len(stack) - needs[p.Kind]
		x := false
		switch p.Kind {
		case api.AskAbove:
			x = v[s.number(p.A)] > p.Limit
		case api.AskMore:
			x = v[s.number(p.A)]-v[s.number(p.B)] > p.Limit
		case api.AskRegion:
			x = s.sum(v, p.Region, p.A.Moment) > p.Limit
		case api.AskNot:
			x = !stack[n]
		case api.AskAll:
			x = stack[n] && stack[n+1]
		case api.AskAny:
			x = stack[n] || stack[n+1]
		}
		stack = append(slices.Clone(stack[:n]), x)
	}
	return stack[0]
}

// sum returns the sum of values over a region.
func (s sea) sum(v []int64, region []int, moment int) int64 {
	sum := int64(0)
	for _, c := range region {
		sum += v[s.number(spot(moment, c))]
	}
	return sum
}

// Random seas.

// size is how great random seas are: their sides, moments, values, slopes, and
// how wide their observations are.
type size struct {
	side, moments int
	ends, slopes  int64
	wide          int64
	seen          int
}

// sizes returns sizes of small and of great seas.
func sizes() []size {
	return []size{{3, 3, 20, 5, 6, 6}, {2, 4, 9, 3, 3, 4}, {5, 2, 100, 20, 30, 12}, {8, 2, 1000, 100, 100, 10}, {3, 8, 50, 9, 9, 20}, {2, 2, 5, 0, 3, 3}, {3, 3, end, slope, end, 8}}
}

// tiny returns sizes of seas whose values can all be tried.
func tiny() []size { return []size{{2, 2, 3, 3, 2, 4}, {2, 1, 2, 2, 3, 3}, {1, 3, 3, 2, 2, 3}} }

// field returns a random field.
func (z size) field(r *rand.Rand) api.Field {
	lo := r.Int63n(2*z.ends+1) - z.ends
	return api.Field{
		Wide: 1 + r.Intn(z.side), High: 1 + r.Intn(z.side), Last: r.Intn(z.moments),
		Range: span(lo, lo+r.Int63n(z.ends-lo+1)), Space: r.Int63n(z.slopes + 1), Change: r.Int63n(z.slopes + 1),
	}
}

// someSpot returns a random spot.
func (s sea) someSpot(r *rand.Rand) api.Spot {
	return spot(r.Intn(s.f.Last+1), r.Intn(s.f.Wide*s.f.High))
}

// someNumber returns a random number of a span.
func someNumber(r *rand.Rand, s api.Span) int64 { return s.Lo + r.Int63n(s.Hi-s.Lo+1) }

// someValues returns random values that are possible.
func (s sea) someValues(r *rand.Rand) []int64 {
	l := s.spots()
	v, raw := make([]int64, len(l)), make([]int64, len(l))
	for i := range l {
		raw[i] = someNumber(r, s.f.Range)
	}
	for i, a := range l {
		v[i] = raw[i]
		for k, b := range l {
			v[i] = min(v[i], raw[k]+s.far(a, b))
		}
	}
	return v
}

// sea returns a random sea with values that fit its observations.
func (z size) sea(r *rand.Rand) (sea, []int64) {
	s := sea{f: z.field(r)}
	v := s.someValues(r)
	for range r.Intn(z.seen + 1) {
		s.l = append(s.l, s.someSeen(r, v, z.wide))
	}
	return s, v
}

// someSeen returns a random observation of values.
func (s sea) someSeen(r *rand.Rand, v []int64, wide int64) api.Seen {
	a := s.someSpot(r)
	x := v[s.number(a)]
	return api.Seen{Spot: a, Set: span(x-r.Int63n(wide+1), x+r.Int63n(wide+1))}
}

// anySea returns a random sea whose observations are often not consistent.
func (z size) anySea(r *rand.Rand) sea {
	s, _ := z.sea(r)
	for range r.Intn(3) {
		a := s.someSpot(r)
		lo := r.Int63n(2*z.ends+1) - z.ends
		at := r.Intn(len(s.l) + 1)
		s.l = slices.Insert(s.l, at, api.Seen{Spot: a, Set: span(lo, lo+r.Int63n(z.wide+1))})
	}
	return s
}

// someSea returns a random sea of any of the sizes, and values that fit its
// observations.
func someSea(r *rand.Rand) (sea, []int64) {
	l := sizes()
	return l[r.Intn(len(l))].sea(r)
}

// someRegion returns a random region.
func (s sea) someRegion(r *rand.Rand) []int {
	n := s.f.Wide * s.f.High
	l := r.Perm(n)[:1+r.Intn(n)]
	slices.Sort(l)
	return l
}

// somePeriod returns two random moments, of which the first is earlier, if the
// sea has two.
func (s sea) somePeriod(r *rand.Rand) (int, int, bool) {
	if s.f.Last == 0 {
		return 0, 0, false
	}
	l := r.Perm(s.f.Last + 1)
	return min(l[0], l[1]), max(l[0], l[1]), true
}

// someSingle returns a random part of a question that needs no answers, with a
// limit near what it asks for.
func (s sea) someSingle(r *rand.Rand) api.Part {
	p := api.Part{Kind: 1 + r.Intn(3), A: s.someSpot(r), B: s.someSpot(r), Region: s.someRegion(r)}
	var at api.Span
	switch p.Kind {
	case api.AskAbove:
		at = s.set(p.A)
	case api.AskMore:
		d := s.far(p.A, p.B)
		at = span(-d, d)
	default:
		at = s.content(p.Region, p.A.Moment)
	}
	p.Limit = someNumber(r, span(at.Lo-2, at.Hi+2))
	return p
}

// someQuestion returns a random question with an answer.
func (s sea) someQuestion(r *rand.Rand) []api.Part {
	var q []api.Part
	for n := 0; len(q) < 14; {
		switch k := r.Intn(7); {
		case k < 3:
			q, n = append(q, s.someSingle(r)), n+1
		case k == 3 && n > 0:
			q = append(q, part(api.AskNot))
		case k == 4 && n > 1:
			q, n = append(q, part(api.AskAll)), n-1
		case k == 5 && n > 1:
			q, n = append(q, part(api.AskAny)), n-1
		case k == 6 && n == 1:
			return q
		}
	}
	for _, e := s.ask(q); e != api.OK; _, e = s.ask(q) {
		q = append(q, part(api.AskAll+r.Intn(2)))
	}
	return q
}

// known asks for the sets of a sea.
func known(t *testing.T, s sea) []api.Span {
	t.Helper()
	got, e := field.Sets(s.f, s.l)
	if !s.consistent() {
		equal(t, s, got, e, nil, api.ErrSum)
		return nil
	}
	equal(t, s, got, e, s.sets(), api.OK)
	return got
}
