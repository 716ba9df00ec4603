package voyage_test

import (
	"math/rand"
	"slices"
	"testing"

	"isobath/api"
	"isobath/voyage"
)

// row returns n times.
func row(n int, t int64) []int64 { return slices.Repeat([]int64{t}, n) }

// near returns a chart of n sites that are all at one place.
func near(n int) api.Chart {
	var c api.Chart
	for range n {
		c.Travel = append(c.Travel, row(n, 0))
	}
	return c
}

// P9.1: charts that are valid, and those that are not.
func TestCheckChart(t *testing.T) {
	two := func(ab, ba int64) [][]int64 { return [][]int64{{0, ab}, {ba, 0}} }
	zones := func(l ...api.Span) api.Chart { return api.Chart{Travel: two(1, 1), Zones: l} }
	for i, x := range []struct {
		c    api.Chart
		want api.Errno
	}{
		{example().c, api.OK},
		{api.Chart{}, api.ErrMany},
		{api.Chart{Travel: [][]int64{}}, api.ErrMany},
		{near(1), api.OK},
		{near(24), api.OK},
		{near(25), api.ErrMany},
		{api.Chart{Travel: make([][]int64, 25)}, api.ErrMany},
		{api.Chart{Travel: make([][]int64, 1)}, api.ErrArg},
		{api.Chart{Travel: two(1, 2)}, api.OK},
		{api.Chart{Travel: two(minutes, 0)}, api.OK},
		{api.Chart{Travel: two(0, minutes)}, api.OK},
		{api.Chart{Travel: two(minutes+1, 0)}, api.ErrArg},
		{api.Chart{Travel: two(0, -1)}, api.ErrArg},
		{api.Chart{Travel: [][]int64{{0, 1}, {1, 1}}}, api.ErrArg},
		{api.Chart{Travel: [][]int64{{1}}}, api.ErrArg},
		{api.Chart{Travel: [][]int64{{-1}}}, api.ErrArg},
		{api.Chart{Travel: [][]int64{{0, 1}, {1}}}, api.ErrArg},
		{api.Chart{Travel: [][]int64{{0, 1}, {1, 0, 1}}}, api.ErrArg},
		{api.Chart{Travel: [][]int64{{0, 1}, nil}}, api.ErrArg},
		{api.Chart{Travel: [][]int64{{0, 0}}}, api.ErrArg},
		{api.Chart{Travel: [][]int64{{0, 1, 2}, {9, 0, 1}, {9, 9, 0}}}, api.OK},
		{api.Chart{Travel: [][]int64{{0, 1, 3}, {9, 0, 1}, {9, 9, 0}}}, api.ErrArg},
		{api.Chart{Travel: [][]int64{{0, 9, 9}, {1, 0, 9}, {3, 1, 0}}}, api.ErrArg},
		{zones(), api.OK},
		{zones(slices.Repeat([]api.Span{span(0, minutes)}, 8)...), api.OK},
		{zones(slices.Repeat([]api.Span{span(0, minutes)}, 9)...), api.ErrMany},
		{zones(span(5, 5), span(0, 3)), api.OK},
		{zones(span(0, 3), span(-1, 3)), api.ErrArg},
		{zones(span(0, minutes+1)), api.ErrArg},
		{zones(span(4, 3)), api.ErrArg},
		{zones(span(1<<40, 1<<40)), api.ErrArg},
	} {
		same(t, i, 0, voyage.CheckChart(x.c), 0, x.want)
	}
}

// P9.1: ships that are valid, and those that are not.
func TestCheckShip(t *testing.T) {
	for i, x := range []struct {
		put  func(s *api.Ship)
		want api.Errno
	}{
		{func(s *api.Ship) {}, api.OK},
		{func(s *api.Ship) { s.From, s.Home = 2, 2 }, api.OK},
		{func(s *api.Ship) { s.From = 3 }, api.ErrArg},
		{func(s *api.Ship) { s.From = -1 }, api.ErrArg},
		{func(s *api.Ship) { s.Home = 3 }, api.ErrArg},
		{func(s *api.Ship) { s.Home = -1 }, api.ErrArg},
		{func(s *api.Ship) { s.Start = 1000 }, api.OK},
		{func(s *api.Ship) { s.Start = 1001 }, api.ErrArg},
		{func(s *api.Ship) { s.Start = -1 }, api.ErrArg},
		{func(s *api.Ship) { s.End = -1 }, api.ErrArg},
		{func(s *api.Ship) { s.End = minutes }, api.OK},
		{func(s *api.Ship) { s.End = minutes + 1 }, api.ErrArg},
		{func(s *api.Ship) { s.Start, s.End = minutes+1, minutes+1 }, api.ErrArg},
		{func(s *api.Ship) { s.Start, s.End = 0, 0 }, api.OK},
		{func(s *api.Ship) { s.Winch, s.Wire, s.Berths = 0, 0, 0 }, api.OK},
		{func(s *api.Ship) { s.Winch, s.Wire, s.Berths = amount, amount, amount }, api.OK},
		{func(s *api.Ship) { s.Winch = amount + 1 }, api.ErrArg},
		{func(s *api.Ship) { s.Winch = -1 }, api.ErrArg},
		{func(s *api.Ship) { s.Wire = amount + 1 }, api.ErrArg},
		{func(s *api.Ship) { s.Wire = -1 }, api.ErrArg},
		{func(s *api.Ship) { s.Berths = amount + 1 }, api.ErrArg},
		{func(s *api.Ship) { s.Berths = -1 }, api.ErrArg},
		{func(s *api.Ship) { s.Teams = nil }, api.OK},
		{func(s *api.Ship) { s.Teams = []int64{0, amount} }, api.OK},
		{func(s *api.Ship) { s.Teams = []int64{0, amount + 1} }, api.ErrArg},
		{func(s *api.Ship) { s.Teams = []int64{-1, 0} }, api.ErrArg},
		{func(s *api.Ship) { s.Teams = make([]int64, 8) }, api.OK},
		{func(s *api.Ship) { s.Teams = make([]int64, 9) }, api.ErrMany},
	} {
		p := changed(func(p *problem) { x.put(&p.s) })
		same(t, i, 0, voyage.CheckShip(p.c, p.s), 0, x.want)
	}
}

// P9.1: jobs that are valid, and those that are not, at any place of the list.
func TestCheckJobs(t *testing.T) {
	for i, x := range []struct {
		put  func(j *api.Job)
		want api.Errno
	}{
		{func(j *api.Job) {}, api.OK},
		{func(j *api.Job) { j.Must = true }, api.OK},
		{func(j *api.Job) { j.Site = 0 }, api.OK},
		{func(j *api.Job) { j.Site = 3 }, api.ErrArg},
		{func(j *api.Job) { j.Site = -1 }, api.ErrArg},
		{func(j *api.Job) { j.Value, j.Weight, j.Wire, j.Minutes = 0, 0, 0, 0 }, api.OK},
		{func(j *api.Job) { j.Value, j.Weight, j.Wire, j.Minutes = amount, amount, amount, minutes }, api.OK},
		{func(j *api.Job) { j.Value = amount + 1 }, api.ErrArg},
		{func(j *api.Job) { j.Value = -1 }, api.ErrArg},
		{func(j *api.Job) { j.Weight = amount + 1 }, api.ErrArg},
		{func(j *api.Job) { j.Weight = -1 }, api.ErrArg},
		{func(j *api.Job) { j.Wire = amount + 1 }, api.ErrArg},
		{func(j *api.Job) { j.Wire = -1 }, api.ErrArg},
		{func(j *api.Job) { j.Minutes = minutes + 1 }, api.ErrArg},
		{func(j *api.Job) { j.Minutes = -1 }, api.ErrArg},
		{func(j *api.Job) { j.Team = 2 }, api.ErrArg},
		{func(j *api.Job) { j.Team = -1 }, api.ErrArg},
		{func(j *api.Job) { j.Zone = 0 }, api.OK},
		{func(j *api.Job) { j.Zone = 1 }, api.ErrArg},
		{func(j *api.Job) { j.Zone = -2 }, api.ErrArg},
		{func(j *api.Job) { j.Weather = nil }, api.OK},
		{func(j *api.Job) { j.Weather = []api.Span{span(0, 3), span(4, minutes)} }, api.OK},
		{func(j *api.Job) { j.Weather = []api.Span{span(0, 3), span(3, 9)} }, api.ErrArg},
		{func(j *api.Job) { j.Weather = []api.Span{span(5, 9), span(0, 3)} }, api.ErrArg},
		{func(j *api.Job) { j.Weather = []api.Span{span(4, 3)} }, api.ErrArg},
		{func(j *api.Job) { j.Weather = []api.Span{span(0, minutes+1)} }, api.ErrArg},
		{func(j *api.Job) { j.Weather = []api.Span{span(-1, 3)} }, api.ErrArg},
		{func(j *api.Job) { j.Weather = windows(16) }, api.OK},
		{func(j *api.Job) { j.Weather = windows(17) }, api.ErrMany},
		{func(j *api.Job) { j.Weather = make([]api.Span, 17) }, api.ErrMany},
	} {
		for k := range 3 {
			p := changed(func(p *problem) { x.put(&p.l[k]) })
			same(t, i, 0, voyage.CheckJobs(p.c, p.s, p.l), 0, x.want)
		}
	}
}

// windows returns n windows.
func windows(n int) []api.Span {
	var l []api.Span
	for k := range int64(n) {
		l = append(l, span(2*k, 2*k+1))
	}
	return l
}

// P9.1: how many jobs there are at most; none is possible.
func TestCheckManyJobs(t *testing.T) {
	for _, x := range []struct {
		n    int
		want api.Errno
	}{{0, api.OK}, {32, api.OK}, {33, api.ErrMany}} {
		p := free(x.n)
		same(t, x.n, 0, voyage.CheckJobs(p.c, p.s, p.l), 0, x.want)
	}
	p := free(33)
	p.l[0].Site = 9
	same(t, "many", 0, voyage.CheckJobs(p.c, p.s, p.l), 0, api.ErrMany)
	p = free(2)
	p.l[0].Site, p.l[1].Weather = 9, windows(17)
	same(t, "windows", 0, voyage.CheckJobs(p.c, p.s, p.l), 0, api.ErrMany)
	p.s.Teams = nil
	same(t, "no team", 0, voyage.CheckJobs(p.c, p.s, p.l[:0]), 0, api.OK)
	same(t, "no team", 0, voyage.CheckJobs(p.c, p.s, free(1).l), 0, api.ErrArg)
}

// P9.1: random problems are valid, and are not if a way over a third site is shorter.
func TestCheckRandom(t *testing.T) {
	r := rand.New(rand.NewSource(1))
	for range 2000 {
		p := someProblem(r)
		same(t, p, 0, voyage.CheckJobs(p.c, p.s, p.l), 0, api.OK)
		n := len(p.c.Travel)
		a, b := r.Intn(n), r.Intn(n)
		p.c.Travel[a][b]++
		want := api.OK
		for by := range n {
			if a == b || p.c.Travel[a][by]+p.c.Travel[by][b] < p.c.Travel[a][b] {
				want = api.ErrArg
			}
		}
		same(t, p, 0, voyage.CheckChart(p.c), 0, want)
		same(t, p, 0, voyage.CheckJobs(p.c, p.s, p.l), 0, want)
	}
}
