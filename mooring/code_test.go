package mooring_test

import (
	"math"
	"math/bits"
	"math/rand"
	"slices"
	"testing"

	"isobath/api"
	"isobath/mooring"
)

// differ returns in how many bits two codes differ.
func differ(a, b int) int { return bits.OnesCount(uint(a ^ b)) }

// someCodes returns up to n codes; some of them are near to one before them.
func someCodes(r *rand.Rand, n int) []int {
	var l []int
	for range r.Intn(n + 1) {
		x := r.Intn(1 << api.CodeBits)
		if len(l) > 0 && r.Intn(3) == 0 {
			x = l[r.Intn(len(l))] ^ 1<<r.Intn(16) ^ 1<<r.Intn(16)
		}
		l = append(l, x)
	}
	return l
}

// P2.6: the chapter's examples.
func TestCodeExamples(t *testing.T) {
	l := []int{0, 7, 56}
	if d, e := mooring.Spacing(l); d != 3 || e != api.OK {
		t.Error(d, e)
	}
	if a, e := mooring.Answers(l, 1, 1); e != api.OK || !slices.Equal(a, []int{0}) {
		t.Error(a, e)
	}
	if a, e := mooring.Answers(l, 1, 2); e != api.OK || !slices.Equal(a, []int{0, 1}) {
		t.Error(a, e)
	}
}

// P2.6: Spacing, for few codes, equal ones, and those that differ in all bits.
func TestSpacing(t *testing.T) {
	for _, x := range []struct {
		l    []int
		want int
		e    api.Errno
	}{
		{nil, 0, api.ErrNone},
		{[]int{}, 0, api.ErrNone},
		{[]int{9}, 0, api.ErrNone},
		{[]int{9, 9}, 0, api.OK},
		{[]int{9, 1, 9}, 0, api.OK},
		{[]int{0, 65535}, 16, api.OK},
		{[]int{0, 32768}, 1, api.OK},
		{[]int{0, 1}, 1, api.OK},
		{[]int{65535, 0, 255}, 8, api.OK},
		{[]int{0, 65535, 254}, 7, api.OK},
		{slices.Repeat([]int{5}, api.MaxCodes), 0, api.OK},
	} {
		if d, e := mooring.Spacing(x.l); d != x.want || e != x.e {
			t.Error(x, d, e)
		}
	}
	r := rand.New(rand.NewSource(6))
	for range 500 {
		l := someCodes(r, api.MaxCodes)
		want, f := api.CodeBits, api.OK
		for i := range l {
			for k := range i {
				want = min(want, differ(l[i], l[k]))
			}
		}
		if len(l) < 2 {
			want, f = 0, api.ErrNone
		}
		if d, e := mooring.Spacing(l); d != want || e != f {
			t.Fatal(l, d, e)
		}
	}
}

// P2.6: Answers, in increasing order of the indexes, for any number of bits.
func TestAnswers(t *testing.T) {
	r := rand.New(rand.NewSource(7))
	for range 500 {
		l := someCodes(r, api.MaxCodes)
		heard := r.Intn(1 << api.CodeBits)
		for wrong := range api.CodeBits + 1 {
			var want []int
			for i, x := range l {
				if differ(x, heard) <= wrong {
					want = append(want, i)
				}
			}
			if a, e := mooring.Answers(l, heard, wrong); e != api.OK || !slices.Equal(a, want) {
				t.Fatal(l, heard, wrong, a, e)
			}
		}
	}
	for _, l := range [][]int{nil, {}} {
		if a, e := mooring.Answers(l, 5, 16); e != api.OK || len(a) != 0 {
			t.Error(a, e)
		}
	}
	if a, e := mooring.Answers([]int{65535, 0, 65535}, 0, 16); e != api.OK || !slices.Equal(a, []int{0, 1, 2}) {
		t.Error(a, e)
	}
	if a, e := mooring.Answers([]int{65535, 0, 65535}, 65535, 0); e != api.OK || !slices.Equal(a, []int{0, 2}) {
		t.Error(a, e)
	}
}

// P2.6, R1 and R2: codes that are not valid.
func TestBadCodes(t *testing.T) {
	most := slices.Repeat([]int{5}, api.MaxCodes)
	type bad struct {
		l []int
		e api.Errno
	}
	list := []bad{{append(slices.Clone(most), 5), api.ErrMany}, {append(slices.Clone(most), -1), api.ErrMany}}
	for _, x := range []int{-1, 1 << api.CodeBits, math.MinInt, math.MaxInt, 1 << 32} {
		list = append(list, bad{[]int{x}, api.ErrArg}, bad{[]int{3, x, 4}, api.ErrArg}, bad{append(slices.Clone(most[1:]), x), api.ErrArg})
	}
	for _, x := range list {
		if d, e := mooring.Spacing(x.l); d != 0 || e != x.e {
			t.Error(x, d, e)
		}
		for _, heard := range []int{5, -1} {
			for _, wrong := range []int{5, 17} {
				if a, e := mooring.Answers(x.l, heard, wrong); len(a) != 0 || e != x.e {
					t.Error(x, a, e)
				}
			}
		}
	}
}

// P2.6: what is heard, and how many bits may be wrong.
func TestAnswersRange(t *testing.T) {
	for _, l := range [][]int{nil, {3}, {3, 3, 65535}} {
		for _, x := range []int{-1, 1 << api.CodeBits, math.MinInt, math.MaxInt} {
			if a, e := mooring.Answers(l, x, 16); len(a) != 0 || e != api.ErrRange {
				t.Error(l, x, a, e)
			}
		}
		for _, x := range []int{-1, 17, math.MinInt, math.MaxInt} {
			if a, e := mooring.Answers(l, 3, x); len(a) != 0 || e != api.ErrRange {
				t.Error(l, x, a, e)
			}
		}
	}
}

// P2.12: codes that are far enough apart, and more wrong bits.
func TestCodes(t *testing.T) {
	r := rand.New(rand.NewSource(12))
	for range 3000 {
		l := someCodes(r, 5)
		for i, x := range l {
			if a, _ := mooring.Answers(l, x, 0); !slices.Contains(a, i) {
				t.Fatal(l, i, a)
			}
		}
		heard := r.Intn(1 << api.CodeBits)
		var last []int
		for wrong := range api.CodeBits + 1 {
			a, e := mooring.Answers(l, heard, wrong)
			for _, i := range last {
				if !slices.Contains(a, i) || e != api.OK {
					t.Fatal(l, heard, wrong, a, last)
				}
			}
			if d, f := mooring.Spacing(l); f == api.OK && d >= 2*wrong+1 && len(a) > 1 {
				t.Fatal(l, heard, wrong, d, a)
			}
			last = a
		}
	}
}

// R5: the codes that are given stay as they are.
func TestCodesUnchanged(t *testing.T) {
	l := []int{9, 3, 7, 3}
	mooring.Spacing(l)
	a, _ := mooring.Answers(l, 3, 16)
	a[0] = 77
	if !slices.Equal(l, []int{9, 3, 7, 3}) {
		t.Error(l)
	}
}
