package archive

import (
	"cmp"
	"iter"
	"maps"
	"slices"
	"strings"

	"isobath/api"
	"isobath/bound"
)

// key tells an entry of an archive from all others.
type key struct {
	series  int
	time    int64
	version int
}

// keyOf returns the key of an entry.
func keyOf(e api.Entry) key { return key{e.Series, e.Time, e.Version} }

// compare compares two keys by the order of entries.
func compare(k, l key) int {
	return cmp.Or(cmp.Compare(k.series, l.series), cmp.Compare(k.time, l.time), cmp.Compare(k.version, l.version))
}

// outsideName tells whether a name cannot have a character.
func outsideName(c rune) bool { return !within(c, 'a', 'z') && !within(c, '0', '9') }

// isName tells whether a string is a name. The characters of a name have one byte.
func isName(s string) bool {
	return within(len(s), 1, api.MaxName) && strings.IndexFunc(s, outsideName) < 0
}

// isTime tells whether a number is a time.
func isTime(t int64) bool { return within(t, 0, api.MaxValue) }

// checkSeries reports whether series are valid.
func checkSeries(s []api.Series) api.Errno {
	if !within(len(s), 1, api.MaxSeries) {
		return api.ErrMany
	}
	names := make(map[string]bool)
	for _, x := range s {
		if !isName(x.Name) || names[x.Name] || bound.Check(x.Bounds) != api.OK {
			return api.ErrArg
		}
		names[x.Name] = true
	}
	return api.OK
}

// isEntry tells whether an entry is valid for series.
func isEntry(s []api.Series, e api.Entry) bool {
	if !within(e.Series, 0, len(s)-1) {
		return false
	}
	times := isTime(e.Time) && isTime(e.Arrived) && isTime(e.Free)
	numbers := within(e.Version, 0, api.MaxRevised) && within(e.Owner, 0, api.MaxOwners-1)
	inside, wrong := bound.In(e.Value, s[e.Series].Bounds)
	return times && numbers && wrong == api.OK && inside == api.Yes && isName(e.Cause)
}

// ordered yields all entries, in order.
func (a *Archive) ordered() iter.Seq[api.Entry] {
	return func(yield func(api.Entry) bool) {
		for _, k := range slices.SortedFunc(maps.Keys(a.entries), compare) {
			if !yield(a.entries[k]) {
				return
			}
		}
	}
}

// asOf yields the entries of the archive as of a time, in order.
func (a *Archive) asOf(t int64) iter.Seq[api.Entry] {
	return func(yield func(api.Entry) bool) {
		for e := range a.ordered() {
			if e.Arrived <= t && !yield(e) {
				return
			}
		}
	}
}

// counting yields the entries that count in the archive as of a time, in order.
// Of those with one series and time the last one has the greatest version.
func (a *Archive) counting(t int64) iter.Seq[api.Entry] {
	return func(yield func(api.Entry) bool) {
		var last api.Entry
		some := false
		for e := range a.asOf(t) {
			if some && (e.Series != last.Series || e.Time != last.Time) && !yield(last) {
				return
			}
			last, some = e, true
		}
		if some {
			yield(last)
		}
	}
}
