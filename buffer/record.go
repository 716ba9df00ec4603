package buffer

import "isobath/api"

// Check reports whether a record is valid. (P8.1)
func Check(r api.Record) api.Errno {
	if !within(r.ID, 0, api.MaxValue) || !within(r.Class, 0, api.MaxClass) || !within(r.Made, 0, api.MaxValue) {
		return api.ErrArg
	}
	if !within(r.Size, 1, api.MaxBytes) || !within(r.Packed, 1, r.Size) {
		return api.ErrArg
	}
	return api.OK
}

// less tells whether a record is less important than another one.
func less(a, b api.Record) bool {
	switch {
	case a.Class != b.Class:
		return a.Class < b.Class
	case a.Made != b.Made:
		return a.Made < b.Made
	}
	return a.ID > b.ID
}

// Less reports whether a record is less important than another one. (P8.1)
func Less(a, b api.Record) (bool, api.Errno) {
	if e := Check(a); e != api.OK {
		return false, e
	}
	if e := Check(b); e != api.OK {
		return false, e
	}
	return less(a, b), api.OK
}
