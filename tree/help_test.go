package tree

import (
	"crypto/sha256"
	"encoding/hex"
	"math"
	"slices"
	"testing"

	"cachet/api"
)

// edges are the lengths of rows that are asked whole.
var edges = [...]int{0, 1, 2, 3, 4, 5, 7, 8, 9, 15, 16, 17, 33}

// far are numbers that no row has a place for, nor as many leaves or levels.
var far = [...]int{math.MinInt, math.MinInt + 1, -1 << 32, -1 << 20, -2, -1, 1<<20 + 1, 1 << 31, 1 << 32, 1<<32 + 1, math.MaxInt - 1, math.MaxInt}

// row is n digests, no two of them the same.
func row(n int) []api.Sum {
	out := make([]api.Sum, n)
	for i := range out {
		out[i] = sha256.Sum256([]byte{byte(i), byte(i >> 8), byte(i >> 16)})
	}
	return out
}

// others are n digests, none of which is one of a row.
func others(n int) []api.Sum {
	out := make([]api.Sum, n)
	for i := range out {
		out[i] = sha256.Sum256([]byte{byte(i), byte(i >> 8), byte(i >> 16), 1})
	}
	return out
}

// grown is a tree of leaves.
func grown(t *testing.T, leaves []api.Sum) *Tree {
	t.Helper()
	x := New()
	for i, d := range leaves {
		add(t, x, d, i)
	}
	return x
}

// add adds a leaf that must be taken, at a place.
func add(t *testing.T, x *Tree, d api.Sum, at int) {
	t.Helper()
	if i, err := x.Add(d); i != at || err != nil {
		t.Fatalf("leaf %d: %d, %v", at, i, err)
	}
}

// root is the digest of the first n, which must be there.
func root(t *testing.T, x *Tree, n int) api.Sum {
	t.Helper()
	got, err := x.Root(n)
	if err != nil {
		t.Fatal(n, err)
	}
	return got
}

// path is a leaf's path that must be there.
func path(t *testing.T, x *Tree, i, n int) []api.Sum {
	t.Helper()
	got, err := x.Path(i, n)
	if err != nil {
		t.Fatal(i, n, err)
	}
	return got
}

// begins is the proof of a beginning that must be there.
func begins(t *testing.T, x *Tree, m, n int) []api.Sum {
	t.Helper()
	got, err := x.Begins(m, n)
	if err != nil {
		t.Fatal(m, n, err)
	}
	return got
}

func written(t *testing.T, texts ...string) []api.Sum {
	t.Helper()
	var out []api.Sum
	for _, text := range texts {
		b, err := hex.DecodeString(text)
		if err != nil || len(b) != 32 {
			t.Fatal(text)
		}
		out = append(out, api.Sum(b))
	}
	return out
}

// What the chapter says, written another way: a row's digests stand two by
// two, one that is left over goes up as it is, and places are told by their
// bits. No row is cut, and nothing of the project's other packages is called.

// pair is the digest of two, by the library's own.
func pair(left, right api.Sum) api.Sum {
	return sha256.Sum256(slices.Concat([]byte{1}, left[:], right[:]))
}

// above is what two by two come to.
func above(level []api.Sum) []api.Sum {
	var out []api.Sum
	for two := range slices.Chunk(level, 2) {
		if len(two) == 2 {
			out = append(out, pair(two[0], two[1]))
		} else {
			out = append(out, two[0])
		}
	}
	return out
}

func plainRoot(leaves []api.Sum) api.Sum {
	if len(leaves) == 0 {
		return sha256.Sum256(nil)
	}
	for len(leaves) > 1 {
		leaves = above(leaves)
	}
	return leaves[0]
}

// plainLevel is level k, without what is left over.
func plainLevel(leaves []api.Sum, k int) []api.Sum {
	if k < 0 || k > 62 {
		return nil
	}
	whole := leaves[:len(leaves)>>k<<k]
	for range k {
		whole = above(whole)
	}
	return whole
}

func plainPath(leaves []api.Sum, i int) []api.Sum {
	var out []api.Sum
	for ; len(leaves) > 1; leaves, i = above(leaves), i>>1 {
		if i^1 < len(leaves) {
			out = append(out, leaves[i^1])
		}
	}
	return out
}

func plainBegins(leaves []api.Sum, m int) []api.Sum {
	if m == len(leaves) {
		return nil
	}
	place := m - 1
	for place&1 == 1 { // two that both are of the first m
		leaves, place = above(leaves), place>>1
	}
	if place == 0 {
		return plainPath(leaves, place)
	}
	return append([]api.Sum{leaves[place]}, plainPath(leaves, place)...)
}

// same asks all calls of a tree, against what the chapter says of its leaves. It tells the first answer that isn't so.
func same(t *testing.T, x *Tree, leaves []api.Sum) {
	t.Helper()
	sameLeaves(t, x, leaves)
	sameLevels(t, x, leaves)
	for n := range len(leaves) + 1 {
		sameFirst(t, x, leaves[:n])
	}
}

func sameLeaves(t *testing.T, x *Tree, leaves []api.Sum) {
	t.Helper()
	if x.Len() != len(leaves) {
		t.Fatalf("%d leaves: Len %d", len(leaves), x.Len())
	}
	for i, d := range leaves {
		if got, err := x.Leaf(i); got != d || err != nil {
			t.Fatalf("%d leaves: Leaf %d: %x, %v", len(leaves), i, got, err)
		}
		if at, ok := x.Find(d); at != slices.Index(leaves, d) || !ok {
			t.Fatalf("%d leaves: Find of leaf %d: %d, %v", len(leaves), i, at, ok)
		}
	}
	for _, d := range append(others(3), plainRoot(nil)) {
		if at, ok := x.Find(d); at != 0 || ok {
			t.Fatalf("%d leaves: Find of none of them: %d, %v", len(leaves), at, ok)
		}
	}
	for _, i := range append([]int{-1, len(leaves), len(leaves) + 1}, far[:]...) {
		if got, err := x.Leaf(i); got != (api.Sum{}) || err != api.ErrRange {
			t.Fatalf("%d leaves: Leaf %d: %x, %v", len(leaves), i, got, err)
		}
	}
}

func sameLevels(t *testing.T, x *Tree, leaves []api.Sum) {
	t.Helper()
	for k := -2; k <= 22; k++ {
		if got := x.Level(k); !slices.Equal(got, plainLevel(leaves, k)) {
			t.Fatalf("%d leaves: Level %d: %x", len(leaves), k, got)
		}
	}
	for _, k := range append([]int{63, 64, 65, 1 << 20}, far[:]...) {
		if got := x.Level(k); len(got) != 0 {
			t.Fatalf("%d leaves: Level %d: %x", len(leaves), k, got)
		}
	}
}

// sameFirst asks what there is of the first ones.
func sameFirst(t *testing.T, x *Tree, first []api.Sum) {
	t.Helper()
	n := len(first)
	if got := root(t, x, n); got != plainRoot(first) {
		t.Fatalf("Root %d: %x", n, got)
	}
	for i := range n {
		if got := path(t, x, i, n); !slices.Equal(got, plainPath(first, i)) {
			t.Fatalf("Path %d of %d: %x", i, n, got)
		}
		if got := begins(t, x, i+1, n); !slices.Equal(got, plainBegins(first, i+1)) {
			t.Fatalf("Begins %d of %d: %x", i+1, n, got)
		}
	}
}
