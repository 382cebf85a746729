package proof

import (
	"crypto/sha256"
	"slices"

	"cachet/api"
)

// What the chapter says, written another way: the row's digests stand level by
// level, two by two, and places are told by their bits. No row is cut, and
// nothing of the project's other packages is called.

// pair is the digest of two, by the library's own.
func pair(left, right api.Sum) api.Sum {
	return sha256.Sum256(slices.Concat([]byte{1}, left[:], right[:]))
}

// levels are a row's digests: its leaves, what two by two of them come to, and
// so on; one that is left over goes up as it is.
func levels(leaves []api.Sum) [][]api.Sum {
	all := [][]api.Sum{slices.Clone(leaves)}
	for level := all[0]; len(level) > 1; level = all[len(all)-1] {
		var above []api.Sum
		for two := range slices.Chunk(level, 2) {
			if len(two) == 2 {
				above = append(above, pair(two[0], two[1]))
			} else {
				above = append(above, two[0])
			}
		}
		all = append(all, above)
	}
	return all
}

// plainRoot is the digest of a row that isn't empty.
func plainRoot(leaves []api.Sum) api.Sum {
	all := levels(leaves)
	return all[len(all)-1][0]
}

// neighbours are those beside a place of the first level, and beside what it comes to.
func neighbours(all [][]api.Sum, place int) []api.Sum {
	var out []api.Sum
	for _, level := range all {
		if beside := place ^ 1; beside < len(level) {
			out = append(out, level[beside])
		}
		place >>= 1
	}
	return out
}

// plainPath is the path of leaf i.
func plainPath(leaves []api.Sum, i int) []api.Sum { return neighbours(levels(leaves), i) }

// plainBegins is the proof of the first m.
func plainBegins(leaves []api.Sum, m int) []api.Sum {
	if m == len(leaves) {
		return nil
	}
	all, place := levels(leaves), m-1
	for place&1 == 1 { // two that both are of the first m
		all, place = all[1:], place>>1
	}
	if place == 0 {
		return neighbours(all, place)
	}
	return append([]api.Sum{all[0][place]}, neighbours(all, place)...)
}

// plainLength is how many digests the path of leaf i of n has.
func plainLength(i, n int) int {
	count := 0
	for last := n - 1; last > 0; i, last = i>>1, last>>1 {
		if i&1 == 1 || i < last {
			count++
		}
	}
	return count
}

// plainCome is what a path comes to, at i and n that are in range; false, if it isn't as long as it must be.
func plainCome(leaf api.Sum, i, n int, path []api.Sum) (api.Sum, bool) {
	last := n - 1
	for _, d := range path {
		if last == 0 {
			return api.Sum{}, false
		}
		for i == last && i&1 == 0 { // left over on this level
			i, last = i>>1, last>>1
		}
		if i&1 == 1 {
			leaf = pair(d, leaf)
		} else {
			leaf = pair(leaf, d)
		}
		i, last = i>>1, last>>1
	}
	return leaf, last == 0
}

// plainExtends tells whether a proof extends, at m and n that are in range.
func plainExtends(m, n int, old, root api.Sum, proof []api.Sum) bool {
	if m == n {
		return len(proof) == 0 && old == root
	}
	if m&(m-1) == 0 {
		proof = append([]api.Sum{old}, proof...)
	}
	if len(proof) == 0 {
		return false
	}
	place, last := m-1, n-1
	for place&1 == 1 {
		place, last = place>>1, last>>1
	}
	first, all := proof[0], proof[0]
	for _, d := range proof[1:] {
		if last == 0 {
			return false
		}
		for place == last && place&1 == 0 {
			place, last = place>>1, last>>1
		}
		if place&1 == 1 {
			first, all = pair(d, first), pair(d, all)
		} else {
			all = pair(all, d)
		}
		place, last = place>>1, last>>1
	}
	return last == 0 && first == old && all == root
}

// And what the chapter says, word by word.

// toldCut is the greatest power of two below n.
func toldCut(n int) int {
	k := 1
	for 2*k < n {
		k *= 2
	}
	return k
}

func toldRoot(row []api.Sum) api.Sum {
	if len(row) == 1 {
		return row[0]
	}
	k := toldCut(len(row))
	return pair(toldRoot(row[:k]), toldRoot(row[k:]))
}

func toldPath(row []api.Sum, i int) []api.Sum {
	if len(row) == 1 {
		return nil
	}
	k := toldCut(len(row))
	if i < k {
		return append(toldPath(row[:k], i), toldRoot(row[k:]))
	}
	return append(toldPath(row[k:], i-k), toldRoot(row[:k]))
}

func toldProve(m int, row []api.Sum, all bool) []api.Sum {
	if m == len(row) {
		if all {
			return nil
		}
		return []api.Sum{toldRoot(row)}
	}
	k := toldCut(len(row))
	if m <= k {
		return append(toldProve(m, row[:k], all), toldRoot(row[k:]))
	}
	return append(toldProve(m-k, row[k:], false), toldRoot(row[:k]))
}
