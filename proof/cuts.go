package proof

import (
	"iter"
	"slices"

	"cachet/api"
	"cachet/leaf"
)

// cut is where a part of a row is cut in two, on the way to one of its leaves.
type cut struct {
	from, at, end int  // the two are from .. at - 1 and at .. end - 1
	right         bool // whether the way goes on in the second one
}

// cuts are those on the way to leaf i of n, that of the whole row first.
func cuts(i, n int) iter.Seq[cut] {
	return func(yield func(cut) bool) {
		from, end := 0, n
		for end-from > 1 {
			at := from + leaf.Cut(end-from)
			right := i >= at
			if !yield(cut{from, at, end, right}) {
				return
			}
			if right {
				from = at
			} else {
				end = at
			}
		}
	}
}

// cutsAhead are those on the way to the greatest part that ends with the first
// m of n. It holds the last one of them, and so is on the way to that leaf.
func cutsAhead(m, n int) iter.Seq[cut] {
	return func(yield func(cut) bool) {
		for c := range cuts(m-1, n) {
			if c.end == m || !yield(c) {
				return
			}
		}
	}
}

// start is where the part begins to which a way leads.
func start(way iter.Seq[cut]) int {
	from := 0
	for c := range way {
		if c.right {
			from = c.at
		}
	}
	return from
}

// upward are the cuts of a way, that of the whole row last: so paths and
// proofs are put together.
func upward(way iter.Seq[cut]) []cut {
	all := slices.Collect(way)
	slices.Reverse(all)
	return all
}

// asides are the digests of the parts that a way leaves aside, upward.
func asides(way iter.Seq[cut], leaves []api.Sum) []api.Sum {
	var out []api.Sum
	for _, c := range upward(way) {
		if c.right {
			out = append(out, leaf.Root(leaves[c.from:c.at]))
		} else {
			out = append(out, leaf.Root(leaves[c.at:c.end]))
		}
	}
	return out
}

// join is the digest of both parts: of the one in which the way goes on, and
// of the one that it leaves aside.
func (c cut) join(on, aside api.Sum) api.Sum {
	if c.right {
		return leaf.Node(aside, on)
	}
	return leaf.Node(on, aside)
}
