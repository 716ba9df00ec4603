package field_test

import (
	"slices"
	"testing"

	"isobath/api"
	"isobath/field"
)

// arguments are those of all functions.
type arguments struct {
	sea
	v      []int64
	a, b   api.Spot
	region []int
	t, u   int
	budget api.Budget
	q      []api.Part
	e      int64
}

// fault is a way in which arguments are not as they should be, and its error.
type fault struct {
	name string
	put  func(a *arguments)
	want api.Errno
}

// call is a function with the faults that it names, in its order. It tells
// whether all results but the error are zero values.
type call struct {
	name   string
	do     func(a arguments) (bool, api.Errno)
	faults []fault
}

// good returns arguments for which all functions but Contradict return OK.
func good() arguments {
	return arguments{
		example(), []int64{20, 30, 40, 25, 35, 45}, spot(0, 1), spot(1, 2), []int{0, 2}, 0, 1,
		api.Budget{Region: []int{1}, From: 0, To: 1, Fluxes: []api.Span{span(3, 4)}},
		[]api.Part{above(spot(1, 2), 50), part(api.AskNot)}, 20,
	}
}

// The faults of the arguments. A list that is too long, or not as it should be,
// keeps what another fault has put into it.
var (
	badField  = fault{"field", func(a *arguments) { a.f.Space = -1 }, api.ErrArg}
	manySeen  = fault{"many observations", func(a *arguments) { a.l = append(slices.Clone(a.l), make([]api.Seen, 63)...) }, api.ErrMany}
	badSeen   = fault{"observation", func(a *arguments) { a.l = append([]api.Seen{seen(0, 3, 0, 0)}, a.l...) }, api.ErrArg}
	againstUs = fault{"not consistent", func(a *arguments) { a.l = append(slices.Clone(a.l), seen(1, 2, 60, 70)) }, api.ErrSum}
	badA      = fault{"spot", func(a *arguments) { a.a = spot(0, 3) }, api.ErrRange}
	badB      = fault{"other spot", func(a *arguments) { a.b = spot(-1, 0) }, api.ErrRange}
	fewValues = fault{"values", func(a *arguments) { a.v = a.v[1:] }, api.ErrEqual}
	badRegion = fault{"region", func(a *arguments) { a.region = []int{2, 0} }, api.ErrArg}
	badT      = fault{"moment", func(a *arguments) { a.t = -1 }, api.ErrRange}
	badU      = fault{"later moment", func(a *arguments) { a.u = 2 }, api.ErrRange}
	notLater  = fault{"not later", func(a *arguments) { a.u = 0 }, api.ErrRange}
	badBudget = fault{"budget", func(a *arguments) { a.budget.From = 1 }, api.ErrArg}
	manyParts = fault{"many parts", func(a *arguments) { a.q = append(slices.Clone(a.q), make([]api.Part, 31)...) }, api.ErrMany}
	badPart   = fault{"part", func(a *arguments) { a.q = append(slices.Clone(a.q), part(7)) }, api.ErrArg}
	noAnswer  = fault{"no answer", func(a *arguments) { a.q = append(slices.Clone(a.q), part(api.AskAll)) }, api.ErrRule}
	badError  = fault{"error", func(a *arguments) { a.e = -1 }, api.ErrRange}
	ofSeen    = []fault{badField, manySeen, badSeen}
	ofSets    = append(slices.Clone(ofSeen), againstUs)
)

// after returns the faults of a function with sets.
func after(l ...fault) []fault { return append(slices.Clone(ofSets), l...) }

// ofOne tells whether the value beside an error is its zero value.
func ofOne[T comparable](x T, e api.Errno) (bool, api.Errno) {
	var zero T
	return x == zero, e
}

// calls returns all functions but Contradict.
func calls() []call {
	return []call{
		{"Check", func(a arguments) (bool, api.Errno) { return true, field.Check(a.f) }, ofSeen[:1]},
		{"CheckSeen", func(a arguments) (bool, api.Errno) { return true, field.CheckSeen(a.f, a.l) }, ofSeen},
		{"Distance", func(a arguments) (bool, api.Errno) { return ofOne(field.Distance(a.f, a.a, a.b)) }, []fault{badField, badA, badB}},
		{"Possible", func(a arguments) (bool, api.Errno) { return ofOne(field.Possible(a.f, a.v)) }, []fault{badField, fewValues}},
		{"Fits", func(a arguments) (bool, api.Errno) { return ofOne(field.Fits(a.f, a.l, a.v)) }, append(slices.Clone(ofSeen), fewValues)},
		{"Sets", func(a arguments) (bool, api.Errno) {
			l, e := field.Sets(a.f, a.l)
			return len(l) == 0, e
		}, ofSets},
		{"Content", func(a arguments) (bool, api.Errno) { return ofOne(field.Content(a.f, a.l, a.region, a.t)) }, after(badRegion, badT)},
		{"Change", func(a arguments) (bool, api.Errno) { return ofOne(field.Change(a.f, a.l, a.region, a.t, a.u)) }, after(badRegion, badT, badU, notLater)},
		{"Rest", func(a arguments) (bool, api.Errno) { return ofOne(field.Rest(a.f, a.l, a.budget)) }, after(badBudget)},
		{"Closes", func(a arguments) (bool, api.Errno) { return ofOne(field.Closes(a.f, a.l, a.budget)) }, after(badBudget)},
		{"Ask", func(a arguments) (bool, api.Errno) { return ofOne(field.Ask(a.f, a.l, a.q)) }, after(manyParts, badPart, noAnswer)},
		{"Promise", func(a arguments) (bool, api.Errno) { return ofOne(field.Promise(a.f, a.l, a.a, a.e)) }, after(badA, badError)},
		{"Next", func(a arguments) (bool, api.Errno) {
			s, sum, e := field.Next(a.f, a.l, a.e)
			return s == api.Spot{} && sum == 0, e
		}, after(badError)},
	}
}

// contradictCall is Contradict: it returns OK if observations are not consistent.
func contradictCall() call {
	return call{"Contradict", func(a arguments) (bool, api.Errno) {
		i, k, e := field.Contradict(a.f, a.l)
		return i == 0 && k == 0, e
	}, ofSeen}
}

// ordered checks a function with each of its faults, and with each two of them.
func ordered(t *testing.T, f call) {
	t.Helper()
	for i, first := range f.faults {
		for _, second := range f.faults[i:] {
			a := good()
			second.put(&a)
			first.put(&a)
			if zero, e := f.do(a); e != first.want || !zero {
				t.Error(f.name, "returns", e, zero, "for", first.name, "and", second.name)
			}
		}
	}
}

// R1 and R2, for P10.1 to P10.7: of several errors the one that is named first is
// returned, and all other results are zero values.
func TestOrderOfErrors(t *testing.T) {
	for _, f := range calls() {
		if _, e := f.do(good()); e != api.OK {
			t.Error(f.name, "returns", e)
		}
		ordered(t, f)
	}
	ordered(t, contradictCall())
	if _, e := contradictCall().do(good()); e != api.ErrNone {
		t.Error("Contradict returns", e)
	}
}

// P10.2 and P10.3: Fits, CheckSeen and Contradict do not ask for observations that
// are consistent; all other functions with observations return ErrSum.
func TestConsistent(t *testing.T) {
	for _, f := range append(calls(), contradictCall()) {
		a := good()
		againstUs.put(&a)
		want := api.OK
		if slices.ContainsFunc(f.faults, func(x fault) bool { return x.name == againstUs.name }) {
			want = api.ErrSum
		}
		if _, e := f.do(a); e != want {
			t.Error(f.name, "returns", e)
		}
	}
}
