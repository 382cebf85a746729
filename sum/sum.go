// Package sum is layer 1: the two digests. See shared/doc/01-sum.md.
package sum

import "cachet/api"

// Short is the short digest.
func Short(parts ...[]byte) api.Sum {
	d := begin[uint32](shortPlan())
	for _, part := range parts {
		d.take(part)
	}
	var out api.Sum
	d.end(out[:])
	return out
}

// Long is the long digest.
func Long(parts ...[]byte) api.Wide {
	d := begin[uint64](longPlan())
	for _, part := range parts {
		d.take(part)
	}
	var out api.Wide
	d.end(out[:])
	return out
}
