package cable

import (
	"cmp"
	"slices"

	"isobath/api"
)

// sortBy sorts a list by one comparison and, where that finds no difference, by
// another one.
func sortBy[T any](l []T, first, second func(a, b T) int) {
	slices.SortFunc(l, func(a, b T) int { return cmp.Or(first(a, b), second(a, b)) })
}

// turns returns the nodes in the order in which they are taken.
func turns(ranks []int) []int {
	var nodes []int
	for k := range ranks {
		nodes = append(nodes, k)
	}
	descending := func(a, b int) int { return cmp.Compare(ranks[b], ranks[a]) }
	sortBy(nodes, descending, cmp.Compare[int])
	return nodes
}

// Share returns the currents that are granted. (P4.4)
func Share(c api.Cable, requests []int64, ranks []int) ([]int64, api.Errno) {
	if e := Check(c); e != api.OK {
		return nil, e
	}
	if len(requests) != len(c.Nodes) || len(ranks) != len(c.Nodes) {
		return nil, api.ErrEqual
	}
	if !areUpTo(requests, api.MaxAmps) {
		return nil, api.ErrRange
	}
	return share(c, requests, turns(ranks)), api.OK
}

// share returns the grants of nodes that are taken in an order.
func share(c api.Cable, requests []int64, order []int) []int64 {
	var spare []int64
	for _, n := range c.Nodes {
		spare = append(spare, n.Limit)
	}
	grants := make([]int64, len(requests))
	for _, k := range order {
		grant := requests[k]
		for j := range up(c, k) {
			grant = min(grant, spare[j])
		}
		for j := range up(c, k) {
			spare[j] -= grant
		}
		grants[k] = grant
	}
	return grants
}

// CheckShare reports whether grants exceed a limit. (P4.4)
func CheckShare(c api.Cable, grants []int64) (int, api.Errno) {
	if e := Check(c); e != api.OK {
		return 0, e
	}
	if len(grants) != len(c.Nodes) {
		return 0, api.ErrEqual
	}
	if !areUpTo(grants, api.MaxAmps) {
		return 0, api.ErrRange
	}
	if k := slices.Index(allowed(drawing(c, grants)), api.No); k >= 0 {
		return k, api.ErrTrip
	}
	return 0, api.OK
}

// drawing returns a cable whose nodes draw just what they are granted.
func drawing(c api.Cable, grants []int64) api.Cable {
	c.Nodes = slices.Clone(c.Nodes)
	for k, x := range grants {
		c.Nodes[k].Load = api.Span{Lo: x, Hi: x}
	}
	return c
}
