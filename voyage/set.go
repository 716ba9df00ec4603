package voyage

// set is a set of indexes of jobs.
type set uint32

// with returns a set with a further index.
func (s set) with(i int) set { return s | 1<<i }

// has tells whether an index is in a set.
func (s set) has(i int) bool { return s>>i&1 != 0 }
