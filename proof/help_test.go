package proof

import (
	"crypto/sha256"
	"encoding/hex"
	"math"
	"slices"
	"testing"

	"cachet/api"
)

// edges are the lengths of rows at whose ends the calls are asked.
var edges = [...]int{0, 1, 2, 3, 5, 8, 9}

// far are numbers that no row has a place for, nor as many leaves.
var far = [...]int{math.MinInt, math.MinInt + 1, -1 << 32, -1 << 20, -2, -1, 1<<20 + 1, 1 << 21, 1 << 31, 1 << 32, 1<<32 + 1, math.MaxInt - 1, math.MaxInt}

// row is n digests, no two of them the same.
func row(n int) []api.Sum {
	out := make([]api.Sum, n)
	for i := range out {
		out[i] = sha256.Sum256([]byte{byte(i), byte(i >> 8), byte(i >> 16)})
	}
	return out
}

// others are n digests, none of which is one of a row.
func others(n int) []api.Sum {
	out := make([]api.Sum, n)
	for i := range out {
		out[i] = sha256.Sum256([]byte{byte(i), byte(i >> 8), byte(i >> 16), 1})
	}
	return out
}

// turned is a digest with one bit turned over.
func turned(d api.Sum, bit int) api.Sum {
	d[bit/8] ^= 1 << (bit % 8)
	return d
}

// with is a list with another digest at a place.
func with(list []api.Sum, at int, d api.Sum) []api.Sum {
	out := slices.Clone(list)
	out[at] = d
	return out
}

func written(t *testing.T, texts ...string) []api.Sum {
	t.Helper()
	var out []api.Sum
	for _, text := range texts {
		b, err := hex.DecodeString(text)
		if err != nil || len(b) != 32 {
			t.Fatal(text)
		}
		out = append(out, api.Sum(b))
	}
	return out
}

// path is a leaf's path that must be there.
func path(t *testing.T, leaves []api.Sum, i int) []api.Sum {
	t.Helper()
	got, err := Path(leaves, i)
	if err != nil {
		t.Fatal(len(leaves), i, err)
	}
	return got
}

// begins is the proof of a beginning that must be there.
func begins(t *testing.T, leaves []api.Sum, m int) []api.Sum {
	t.Helper()
	got, err := Begins(leaves, m)
	if err != nil {
		t.Fatal(len(leaves), m, err)
	}
	return got
}

// nodes are all digests of a row and of its parts, each once.
func nodes(leaves []api.Sum) []api.Sum {
	var out []api.Sum
	for _, level := range levels(leaves) {
		for _, d := range level {
			if !slices.Contains(out, d) {
				out = append(out, d)
			}
		}
	}
	return out
}

// everyList are all lists of n out of some.
func everyList(of []api.Sum, n int) [][]api.Sum {
	all := [][]api.Sum{nil}
	for range n {
		var longer [][]api.Sum
		for _, list := range all {
			for _, d := range of {
				longer = append(longer, append(slices.Clip(list), d))
			}
		}
		all = longer
	}
	return all
}
