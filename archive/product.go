package archive

import (
	"slices"

	"isobath/api"
)

// The numbers of the checksum (FNV-1a).
const (
	sumBegin  uint64 = 14695981039346656037
	sumFactor uint64 = 1099511628211
)

// checksum returns the checksum of a string.
func checksum(s string) uint64 {
	sum := sumBegin
	for i := range len(s) {
		sum = (sum ^ uint64(s[i])) * sumFactor
	}
	return sum
}

// product returns the product of a query that found what is in the view.
func (v view) product(q api.Query) api.Product {
	l := v.shown()
	p := api.Product{Query: q, Count: len(v.found), Hidden: len(v.found) - len(l), Sum: checksum(lines(slices.Values(l)))}
	if p.Count > 0 {
		p.Mean = v.mean()
	}
	return p
}

// Publish returns the product of a query. (P11.7)
func (a *Archive) Publish(q api.Query) (api.Product, api.Errno) {
	v, wrong := a.look(q)
	if wrong != api.OK {
		return api.Product{}, wrong
	}
	return v.product(q), api.OK
}

// CheckProduct reports whether a product can be made again. (P11.7)
func (a *Archive) CheckProduct(p api.Product) api.Errno {
	again, wrong := a.Publish(p.Query)
	switch {
	case wrong != api.OK:
		return wrong
	case again != p:
		return api.ErrSum
	}
	return api.OK
}
