package tree

import (
	"math/bits"

	"cachet/api"
	"cachet/leaf"
)

// level is a level's own memory, which isn't handed out. A nil Tree has none.
func (t *Tree) level(k int) []api.Sum {
	if t == nil || k < 0 || k >= len(t.levels) {
		return nil
	}
	return t.levels[k]
}

// put puts a digest at the end of level k. Where it is the second one of two,
// these make one more whole of the level above.
func (t *Tree) put(k int, d api.Sum) {
	if k == len(t.levels) {
		t.levels = append(t.levels, nil)
	}
	level := append(t.levels[k], d)
	t.levels[k] = level
	if n := len(level); n%2 == 0 {
		t.put(k+1, leaf.Node(level[n-2], level[n-1]))
	}
}

// part is the digest of the leaves from .. end - 1, where these are a part to
// which cuts of the first ones lead. Such a part begins at a multiple of each
// power of two up to its length, so that one of 2^k leaves stands on level k.
func (t *Tree) part(from, end int) api.Sum {
	n := end - from
	if n == 0 {
		return leaf.Empty()
	}
	if k := bits.TrailingZeros(uint(n)); n == 1<<k {
		return t.level(k)[from>>k]
	}
	at := from + leaf.Cut(n)
	return leaf.Node(t.part(from, at), t.part(at, end))
}

// pathIn is the path of leaf i in a part that holds it.
func (t *Tree) pathIn(from, end, i int) []api.Sum {
	if end-from == 1 {
		return nil
	}
	at := from + leaf.Cut(end-from)
	if i < at {
		return append(t.pathIn(from, at, i), t.part(at, end))
	}
	return append(t.pathIn(at, end, i), t.part(from, at))
}

// prove is the proof, in a part, that the leaves ahead of m are the beginning.
func (t *Tree) prove(from, end, m int) []api.Sum {
	if m == end {
		// A part from 0 on is the first m themselves, whose digest is known to who checks.
		if from == 0 {
			return nil
		}
		return []api.Sum{t.part(from, end)}
	}
	at := from + leaf.Cut(end-from)
	if m <= at {
		return append(t.prove(from, at, m), t.part(at, end))
	}
	return append(t.prove(at, end, m), t.part(from, at))
}
