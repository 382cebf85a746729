package tree

import (
	"slices"
	"testing"

	"cachet/api"
	"cachet/proof"
)

// TestFull has as many leaves as a tree takes, and more.
func TestFull(t *testing.T) {
	if testing.Short() {
		t.Skip("takes seconds")
	}
	const most = 1 << 20
	leaves := row(most)
	x := grown(t, leaves[:most-1])
	if got := x.Level(20); len(got) != 0 || x.Len() != most-1 {
		t.Fatalf("ahead of the last one: %x, %d", got, x.Len())
	}
	early := root(t, x, most-1)
	add(t, x, leaves[most-1], most-1)
	isFull(t, x, leaves)
	for range 2 {
		for _, d := range []api.Sum{others(1)[0], leaves[0], leaves[most-1], {}} {
			if i, err := x.Add(d); i != 0 || err != api.ErrFull {
				t.Errorf("one more: %d, %v", i, err)
			}
		}
		isFull(t, x, leaves)
	}
	if root(t, x, most-1) != early {
		t.Error("another digest of all but the last one")
	}
}

// isFull asks a tree of as many leaves as there may be.
func isFull(t *testing.T, x *Tree, leaves []api.Sum) {
	t.Helper()
	most := len(leaves)
	if x.Len() != most {
		t.Fatal(x.Len())
	}
	level := leaves
	for k := range 21 {
		if got := x.Level(k); !slices.Equal(got, level) {
			t.Errorf("level %d: %d digests", k, len(got))
		}
		level = above(level)
	}
	whole := root(t, x, most)
	if !slices.Equal(x.Level(20), []api.Sum{whole}) || len(x.Level(21)) != 0 {
		t.Errorf("%x", x.Level(21))
	}
	if got, err := x.Root(most + 1); got != (api.Sum{}) || err != api.ErrRange {
		t.Errorf("%x, %v", got, err)
	}
	for _, i := range []int{0, 1, most/2 - 1, most / 2, most - 2, most - 1} {
		if at, ok := x.Find(leaves[i]); at != i || !ok {
			t.Error(i, at, ok)
		}
		if got, err := x.Leaf(i); got != leaves[i] || err != nil {
			t.Errorf("%d: %x, %v", i, got, err)
		}
		if p := path(t, x, i, most); len(p) != 20 || !proof.Holds(leaves[i], i, most, p, whole) {
			t.Errorf("%d: %x", i, p)
		}
		if !proof.Extends(i+1, most, root(t, x, i+1), whole, begins(t, x, i+1, most)) {
			t.Error(i)
		}
		refused(t, x, i+1, most+1)
	}
	if got, err := x.Leaf(most); got != (api.Sum{}) || err != api.ErrRange {
		t.Errorf("%x, %v", got, err)
	}
	for _, d := range append(others(2), api.Sum{}) {
		if at, ok := x.Find(d); at != 0 || ok {
			t.Error(at, ok)
		}
	}
	refused(t, x, -1, most)
	refused(t, x, most+1, most)
}
