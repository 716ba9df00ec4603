package buffer_test

import (
	"math/rand"
	"slices"
	"testing"

	"isobath/api"
	"isobath/buffer"
)

// parcel returns a parcel.
func parcel(size, worth int64) api.Parcel { return api.Parcel{Size: size, Worth: worth} }

// best compares the best choice with what is wanted.
func best(t *testing.T, l []api.Parcel, bytes int64, want []int, worth int64) {
	t.Helper()
	c, w, e := buffer.Best(l, bytes)
	equal(t, l, c, e, want, api.OK)
	same(t, l, w, e, worth, api.OK)
}

// P8.6: the chapter's examples.
func TestExamplesOfBest(t *testing.T) {
	l := []api.Parcel{parcel(60, 100), parcel(50, 70), parcel(50, 60)}
	best(t, l, 100, []int{1, 2}, 130)
	best(t, l, 60, []int{0}, 100)
}

// P8.6: the worth decides, then the size, and then the indexes.
func TestBest(t *testing.T) {
	best(t, nil, 0, nil, 0)
	best(t, []api.Parcel{}, 1<<24, nil, 0)
	best(t, []api.Parcel{parcel(1, 1)}, 0, nil, 0)
	best(t, []api.Parcel{parcel(1, 1)}, 1, []int{0}, 1)
	best(t, []api.Parcel{parcel(2, 1)}, 1, nil, 0)
	// What is worth nothing is not sent, as this takes fewer bytes.
	best(t, []api.Parcel{parcel(1, 0), parcel(2, 5), parcel(3, 0)}, 9, []int{1}, 5)
	// Equal worth, fewer bytes: also if it comes later, or is more parcels.
	best(t, []api.Parcel{parcel(5, 7), parcel(4, 7)}, 5, []int{1}, 7)
	best(t, []api.Parcel{parcel(5, 7), parcel(2, 3), parcel(2, 4)}, 5, []int{1, 2}, 7)
	// Equal worth and bytes: the first in the order of lists.
	best(t, []api.Parcel{parcel(3, 3), parcel(3, 3), parcel(3, 3)}, 3, []int{0}, 3)
	best(t, []api.Parcel{parcel(3, 3), parcel(3, 3), parcel(3, 3)}, 8, []int{0, 1}, 6)
	best(t, []api.Parcel{parcel(1, 1), parcel(2, 2), parcel(2, 2), parcel(1, 1)}, 3, []int{0, 1}, 3)
	best(t, []api.Parcel{parcel(1, 1), parcel(3, 3), parcel(4, 4), parcel(5, 5)}, 8, []int{0, 1, 2}, 8)
	best(t, []api.Parcel{parcel(4, 4), parcel(3, 3), parcel(2, 2), parcel(1, 1)}, 5, []int{0, 3}, 5)
	best(t, []api.Parcel{parcel(2, 2), parcel(4, 4), parcel(1, 1), parcel(1, 1)}, 4, []int{0, 2, 3}, 4)
}

// P8.6: sums at the limits of sizes and worths.
func TestBestAtLimits(t *testing.T) {
	l := slices.Repeat([]api.Parcel{parcel(1, 1<<20)}, 24)
	all := []int{0, 1, 2, 3, 4, 5, 6, 7, 8, 9, 10, 11, 12, 13, 14, 15, 16, 17, 18, 19, 20, 21, 22, 23}
	best(t, l, 24, all, 24<<20)
	best(t, l, 1<<24, all, 24<<20)
	best(t, l, 23, all[:23], 23<<20)
	best(t, l, 7, all[:7], 7<<20)
	best(t, slices.Repeat([]api.Parcel{parcel(1<<24, 1<<20)}, 24), 1<<24, []int{0}, 1<<20)
	best(t, slices.Repeat([]api.Parcel{parcel(1<<24, 1<<20)}, 24), 1<<24-1, nil, 0)
	best(t, slices.Repeat([]api.Parcel{parcel(1, 0)}, 24), 1<<24, nil, 0)
	l[23] = parcel(2, 1<<20)
	best(t, l, 24, all[:23], 23<<20)
	l[0] = parcel(9, 1<<20)
	best(t, l, 23, all[1:23], 22<<20)
}

// P8.6: how many parcels there may be, what is not valid in one, and how many
// bytes there may be.
func TestErrorsOfBest(t *testing.T) {
	good := slices.Repeat([]api.Parcel{parcel(1, 1)}, 24)
	bad := []api.Parcel{{}, parcel(0, 1), parcel(-1, 1), parcel(1<<24+1, 1), parcel(1, -1), parcel(1, 1<<20+1)}
	for _, x := range wildNumbers() {
		bad = append(bad, parcel(x, 1), parcel(1, x))
		c, w, e := buffer.Best(good, x)
		equal(t, x, c, e, nil, api.ErrRange)
		same(t, x, w, e, 0, api.ErrRange)
	}
	for _, bytes := range []int64{-1, 1<<24 + 1} {
		c, w, e := buffer.Best(good, bytes)
		equal(t, bytes, c, e, nil, api.ErrRange)
		same(t, bytes, w, e, 0, api.ErrRange)
	}
	for _, p := range bad {
		for i := range good {
			l := slices.Clone(good)
			l[i] = p
			c, w, e := buffer.Best(l, 100)
			equal(t, l, c, e, nil, api.ErrArg)
			same(t, l, w, e, 0, api.ErrArg)
		}
	}
	for _, n := range []int{25, 26, 100} {
		c, w, e := buffer.Best(slices.Repeat([]api.Parcel{parcel(1, 1)}, n), 100)
		equal(t, n, c, e, nil, api.ErrMany)
		same(t, n, w, e, 0, api.ErrMany)
	}
}

// parcels returns n random parcels: of few different sizes and worths, of many,
// or such that their worth is their size.
func parcels(r *rand.Rand, n int) []api.Parcel {
	size, worth := []int64{2, 5, 30, api.MaxBytes}[r.Intn(4)], []int64{1, 3, 30, api.MaxWorth}[r.Intn(4)]
	same := r.Intn(3) == 0
	var l []api.Parcel
	for range n {
		p := parcel(1+r.Int63n(size), r.Int63n(worth+1))
		if same {
			p.Worth = min(p.Size, api.MaxWorth)
		}
		l = append(l, p)
	}
	return l
}

// sums returns the sums of the Worth and of the sizes of a choice.
func sums(l []api.Parcel, choice []int) (int64, int64) {
	worth, size := int64(0), int64(0)
	for _, i := range choice {
		worth += l[i].Worth
		size += l[i].Size
	}
	return worth, size
}

// someBytes returns a number of bytes that may be enough for some parcels.
func someBytes(r *rand.Rand, l []api.Parcel) int64 {
	total := int64(2)
	for _, p := range l {
		total += p.Size
	}
	return r.Int63n(min(total, api.MaxBytes+1))
}

// bestOf returns the best choice, by all choices.
func bestOf(l []api.Parcel, bytes int64) []int {
	var found []int
	for mask := range 1 << len(l) {
		var choice []int
		for i := range l {
			if mask>>i&1 == 1 {
				choice = append(choice, i)
			}
		}
		worth, size := sums(l, choice)
		if size > bytes {
			continue
		}
		w, s := sums(l, found)
		if worth > w || worth == w && size < s || worth == w && size == s && slices.Compare(choice, found) < 0 {
			found = choice
		}
	}
	return found
}

// P8.6 and P8.12: the best choice is that of all choices.
func TestBestByAll(t *testing.T) {
	r := rand.New(rand.NewSource(10))
	for n := range 3000 {
		l := parcels(r, n%11)
		bytes := someBytes(r, l)
		want := bestOf(l, bytes)
		worth, _ := sums(l, want)
		best(t, l, bytes, want, worth)
	}
}

// P8.6 and P8.12: also the best choice of up to 24 parcels is the best, by what
// is best for each part of them and each number of bytes.
func TestBestOfMany(t *testing.T) {
	r := rand.New(rand.NewSource(11))
	for n := range 300 {
		l := parcels(r, 12+n%13)
		for i := range l {
			l[i].Size = 1 + l[i].Size%20
		}
		bytes := someBytes(r, l)
		want := bestByBytes(l, bytes)
		worth, _ := sums(l, want)
		best(t, l, bytes, want, worth)
	}
}

// bestByBytes returns the best choice. A choice of an index comes before those of
// later ones: so the first one that the best worth and size allow is taken.
func bestByBytes(l []api.Parcel, bytes int64) []int {
	type sum struct{ worth, size int64 }
	better := func(a, b sum) sum {
		if b.worth > a.worth || b.worth == a.worth && b.size < a.size {
			return b
		}
		return a
	}
	// The best sums from the index i on, for each number of bytes.
	table := make([][]sum, len(l)+1)
	table[len(l)] = make([]sum, bytes+1)
	for i := len(l) - 1; i >= 0; i-- {
		table[i] = slices.Clone(table[i+1])
		for n := l[i].Size; n <= bytes; n++ {
			rest := table[i+1][n-l[i].Size]
			table[i][n] = better(table[i][n], sum{rest.worth + l[i].Worth, rest.size + l[i].Size})
		}
	}
	var choice []int
	left := bytes
	for i, p := range l {
		if p.Size > left {
			continue
		}
		rest := table[i+1][left-p.Size]
		if table[i][left] == (sum{rest.worth + p.Worth, rest.size + p.Size}) {
			choice = append(choice, i)
			left -= p.Size
		}
	}
	return choice
}

// P8.12: no choice is worth more; with more bytes, or one more parcel, the best
// choice is worth no less.
func TestBestIsBest(t *testing.T) {
	r := rand.New(rand.NewSource(12))
	for range 400 {
		l := parcels(r, 1+r.Intn(24))
		bytes := someBytes(r, l)
		c, worth, e := buffer.Best(l, bytes)
		w, size := sums(l, c)
		if e != api.OK || w != worth || size > bytes {
			t.Fatal(l, bytes, c, worth, e)
		}
		if _, more, e := buffer.Best(l, min(bytes+r.Int63n(9), api.MaxBytes)); more < worth || e != api.OK {
			t.Fatal(l, bytes, worth, more, e)
		}
		if _, less, e := buffer.Best(l[:len(l)-1], bytes); less > worth || e != api.OK {
			t.Fatal(l, bytes, worth, less, e)
		}
		for range 50 {
			if w, size := sums(l, someChoice(r, len(l))); size <= bytes && w > worth {
				t.Fatal(l, bytes, c, worth, w)
			}
		}
	}
}

// someChoice returns a random choice from n parcels.
func someChoice(r *rand.Rand, n int) []int {
	l := r.Perm(n)[:r.Intn(n+1)]
	slices.Sort(l)
	return l
}
