package field_test

import (
	"math"
	"math/rand"
	"testing"

	"isobath/api"
	"isobath/field"
)

// promises asks for what an observation promises.
func promises(t *testing.T, s sea, a api.Spot, e, want int64, wantErr api.Errno) {
	t.Helper()
	x, wrong := field.Promise(s.f, s.l, a, e)
	same(t, []any{s, a, e}, x, wrong, want, wantErr)
}

// nexts asks for the next observation.
func nexts(t *testing.T, s sea, e int64, want api.Spot, sum int64, wantErr api.Errno) {
	t.Helper()
	a, x, wrong := field.Next(s.f, s.l, e)
	same(t, []any{s, e}, a, wrong, want, wantErr)
	same(t, []any{s, e}, x, wrong, sum, wantErr)
}

// P10.7: the chapter's examples.
func TestPromise(t *testing.T) {
	s := example()
	promises(t, s, spot(0, 1), 0, 50, api.OK)
	promises(t, s, spot(0, 1), 20, 60, api.OK)
	nexts(t, s, 0, spot(0, 0), 50, api.OK)
	// Nothing is seen yet: the width of all sets is 100.
	s.l = nil
	promises(t, s, spot(0, 0), 0, 0+20+40+10+30+50, api.OK)
	promises(t, s, spot(0, 1), 0, 20+0+20+30+10+30, api.OK)
	promises(t, s, spot(0, 1), 75, 95+75+95+100+85+100, api.OK)
	promises(t, s, spot(1, 1), 100, 600, api.OK)
	promises(t, s, spot(1, 1), most, 600, api.OK)
	nexts(t, s, 0, spot(0, 1), 110, api.OK)
	nexts(t, s, most, spot(0, 0), 600, api.OK)
	nexts(t, s, 100, spot(0, 0), 600, api.OK)
	nexts(t, s, 99, spot(0, 0), 599, api.OK)
}

// P10.7: of several spots with the least sum the one with the least number is next.
func TestNextOfEqualOnes(t *testing.T) {
	f := api.Field{Wide: 3, High: 3, Last: 2, Range: span(0, 10), Space: 10, Change: 10}
	// Only one set is narrower, and all others have the same width.
	nexts(t, sea{f, []api.Seen{seen(0, 0, 5, 5)}}, 0, spot(0, 1), 250, api.OK)
	nexts(t, sea{f, []api.Seen{seen(1, 4, 5, 5)}}, 0, spot(0, 0), 250, api.OK)
	nexts(t, sea{f, []api.Seen{seen(0, 0, 5, 5), seen(0, 1, 5, 5), seen(0, 2, 3, 5)}}, 1, spot(0, 3), 2+1+23*10, api.OK)
	flat := api.Field{Wide: 2, High: 2, Last: 1, Range: span(0, 10)}
	nexts(t, sea{f: flat}, 3, spot(0, 0), 24, api.OK)
	// The last spot of all.
	s := sea{f: f}
	for _, a := range s.spots()[:26] {
		s.l = append(s.l, api.Seen{Spot: a, Set: span(4, 5)})
	}
	nexts(t, s, 1, spot(2, 8), 27, api.OK)
}

// P10.7: errors and spots that are not valid.
func TestPromiseErrors(t *testing.T) {
	s := example()
	for _, e := range []int64{-1, most + 1, math.MinInt64, math.MaxInt64} {
		promises(t, s, spot(0, 0), e, 0, api.ErrRange)
		nexts(t, s, e, spot(0, 0), 0, api.ErrRange)
	}
	for _, a := range []api.Spot{spot(2, 0), spot(-1, 0), spot(0, 3), spot(0, -1), spot(math.MinInt, math.MaxInt)} {
		promises(t, s, a, 0, 0, api.ErrRange)
		promises(t, s, a, -1, 0, api.ErrRange)
	}
	wrong := s.with(seen(1, 2, 60, 70))
	promises(t, wrong, spot(9, 9), -1, 0, api.ErrSum)
	nexts(t, wrong, -1, spot(0, 0), 0, api.ErrSum)
	promises(t, s.with(seen(9, 9, 0, 0)), spot(9, 9), -1, 0, api.ErrArg)
	nexts(t, s.with(seen(9, 9, 0, 0)), -1, spot(0, 0), 0, api.ErrArg)
}

// P10.7: the greatest field.
func TestPromiseLimits(t *testing.T) {
	s := greatest()
	promises(t, s, spot(0, 0), most, 512*2*end, api.OK)
	nexts(t, s, most, spot(0, 0), 512*2*end, api.OK)
	a, sum, e := field.Next(s.f, s.l, 0)
	same(t, "spot", a, e, spot(3, 27), api.OK)
	same(t, "sum", sum, e, s.promised(spot(3, 27), 0), api.OK)
}

// P10.7 and P10.13: random seas; no spot promises less than the next one.
func TestNextRandom(t *testing.T) {
	r := rand.New(rand.NewSource(17))
	for range 700 {
		s, _ := someSea(r)
		if len(s.spots()) > 90 {
			continue
		}
		e := r.Int63n(s.f.Range.Hi - s.f.Range.Lo + 3)
		best, least := spot(0, 0), int64(math.MaxInt64)
		for _, a := range s.spots() {
			sum := s.promised(a, e)
			promises(t, s, a, e, sum, api.OK)
			if sum < least {
				best, least = a, sum
			}
		}
		nexts(t, s, e, best, least, api.OK)
	}
}

// P10.13: after an observation the sum of the widths of all sets is at most what
// was promised.
func TestPromisesAreKept(t *testing.T) {
	r := rand.New(rand.NewSource(18))
	for range 1500 {
		s, v := someSea(r)
		o := s.someSeen(r, v, 9)
		most, e := field.Promise(s.f, s.l, o.Spot, o.Set.Hi-o.Set.Lo)
		sum := int64(0)
		for _, set := range known(t, s.with(o)) {
			sum += set.Hi - set.Lo
		}
		if e != api.OK || sum > most {
			t.Fatal(s, o, most, sum, e)
		}
	}
}
