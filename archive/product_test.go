package archive_test

import (
	"math/rand"
	"testing"

	"isobath/api"
)

// P11.7: the products of the chapter's examples.
func TestPublish(t *testing.T) {
	a := filled(t, pair(), three()...)
	s := shore{pair(), three()}
	for reader, want := range map[int]api.Product{
		1: {Query: ask(1), Count: 2, Hidden: 1, Mean: span(50, 252)},
		2: {Query: ask(2), Count: 2, Hidden: 0, Mean: span(105, 107)},
	} {
		p, e := a.Publish(ask(reader))
		want.Sum = s.product(ask(reader)).Sum
		same(t, reader, p, e, want, api.OK)
		same(t, reader, a.CheckProduct(p), api.OK, api.OK, api.OK)
	}
	hiddenOnly := api.Query{Now: 100, AsOf: 60, From: 11, To: 12}
	p, e := a.Publish(hiddenOnly)
	same(t, "hidden", p, e, api.Product{Query: hiddenOnly, Count: 1, Hidden: 1, Mean: span(0, 400), Sum: 14695981039346656037}, api.OK)
}

// sums returns causes of the chapter's entry A, and the checksums of its lines.
func sums() map[string]uint64 {
	return map[string]uint64{
		"raw": 16659155086848388683, "a": 3730600177638908004, "0": 3685627953030715257,
		"climate": 7814427350635474752, "zzzzzzzzzzzzzzzzzzzz": 4708035389782385835,
	}
}

// P11.7: the checksum is FNV-1a; these sums were computed elsewhere.
func TestChecksum(t *testing.T) {
	for cause, want := range sums() {
		e := first()
		e.Cause = cause
		q := ask(1)
		p, wrong := filled(t, pair(), e).Publish(q)
		same(t, cause, p.Sum, wrong, want, api.OK)
	}
}

// P11.7: the order of the lines decides the checksum, and only what is seen does.
func TestChecksumOfOrder(t *testing.T) {
	early, late := first(), first()
	early.Time, late.Time = 5, 20
	q := ask(1)
	a, b := filled(t, pair(), late, second(), early), filled(t, pair(), early, late, second())
	p, e := a.Publish(q)
	same(t, "order", b.CheckProduct(p), e, api.OK, api.OK)
	c := filled(t, pair(), early, late)
	other, e := c.Publish(q)
	same(t, "seen", other.Sum, e, p.Sum, api.OK)
	same(t, "count", c.CheckProduct(p), api.OK, api.ErrSum, api.OK)
}

// P11.7: CheckProduct returns ErrSum if anything differs, and ErrArg if the query
// is not valid.
func TestCheckProduct(t *testing.T) {
	a := filled(t, pair(), three()...)
	for _, reader := range []int{1, 2} {
		for i, change := range []func(p *api.Product){
			func(p *api.Product) { p.Count++ },
			func(p *api.Product) { p.Hidden-- },
			func(p *api.Product) { p.Mean.Lo++ },
			func(p *api.Product) { p.Mean.Hi-- },
			func(p *api.Product) { p.Sum++ },
			func(p *api.Product) { p.Sum ^= 1 << 63 },
			func(p *api.Product) { *p = api.Product{Query: p.Query} },
			func(p *api.Product) { p.Query.Reader = 3 - p.Query.Reader },
			func(p *api.Product) { p.Query.AsOf = 20 },
			func(p *api.Product) { p.Query.Series = 1 },
			func(p *api.Product) { p.Query.From = 11 },
			func(p *api.Product) { p.Query.To = 11 },
		} {
			p, e := a.Publish(ask(reader))
			change(&p)
			same(t, i, a.CheckProduct(p), e, api.ErrSum, api.OK)
		}
		for i, x := range queryBends() {
			p, _ := a.Publish(ask(reader))
			x.change(&p.Query)
			if e := a.CheckProduct(p); (e == api.ErrArg) == x.ok {
				t.Error(i, p, e)
			}
		}
	}
	p, e := a.Publish(ask(1))
	p.Query.Now = 999
	same(t, "the same but for the time", a.CheckProduct(p), e, api.OK, api.OK)
	p.Query.Now = 1000
	same(t, "free", a.CheckProduct(p), e, api.ErrSum, api.OK)
}

// P11.7: whoever changes a product is found out.
func TestAnyProducts(t *testing.T) {
	r := rand.New(rand.NewSource(10))
	differ := 0
	for range 1500 {
		s, _ := someShore(r)
		a := filled(t, s.series, s.l...)
		p, _ := a.Publish(s.query(r))
		other, e := a.Publish(s.query(r))
		want := api.OK
		if q := p.Query; other != p {
			other.Query = q
			if other != p {
				want = api.ErrSum
				differ++
			}
		}
		same(t, p, a.CheckProduct(other), e, want, api.OK)
	}
	if differ < 300 {
		t.Error(differ)
	}
}

// P11.10: what is known as of a time does not change with what arrives later, and
// a product that was published can be made again for ever.
func TestAsOfThen(t *testing.T) {
	r := rand.New(rand.NewSource(11))
	added := 0
	for range 600 {
		s, z := someShore(r)
		a := filled(t, s.series, s.l...)
		var products []api.Product
		for range 5 {
			p, e := a.Publish(s.query(r))
			same(t, s, e, api.OK, api.OK, api.OK)
			products = append(products, p)
		}
		before := a.Copy()
		last := int64(0)
		for _, p := range products {
			last = max(last, p.Query.AsOf)
		}
		for range 20 {
			e := z.entry(r, s)
			e.Arrived = min(last+1+r.Int63n(9), most)
			if e.Arrived > last && a.Add(e) == api.OK {
				added++
			}
		}
		for _, p := range products {
			same(t, p, a.CheckProduct(p), api.OK, api.OK, api.OK)
			text, e := a.Text(p.Query.AsOf)
			same(t, p, text, e, s.text(p.Query.AsOf), api.OK)
			s.answers(t, a, p.Query)
			s.answers(t, before, p.Query)
		}
	}
	if added < 1000 {
		t.Error(added)
	}
}

// P11.10: a correction that arrives later is found by those who ask as of then,
// and one that arrived in time would change the product.
func TestLateCorrections(t *testing.T) {
	a := filled(t, pair(), first(), second())
	q := ask(1)
	q.AsOf = 49
	p, e := a.Publish(q)
	same(t, "late", a.Add(third()), e, api.OK, api.OK)
	same(t, "late", a.CheckProduct(p), api.OK, api.OK, api.OK)
	x, e := a.Counts(0, 10, 49)
	same(t, "then", x, e, first(), api.OK)
	x, e = a.Counts(0, 10, 50)
	same(t, "now", x, e, third(), api.OK)
	in := third()
	in.Version, in.Arrived = 2, 49
	same(t, "in time", a.Add(in), api.OK, api.OK, api.OK)
	same(t, "in time", a.CheckProduct(p), api.OK, api.ErrSum, api.OK)
}
