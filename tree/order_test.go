package tree

import (
	"math/rand"
	"slices"
	"testing"

	"cachet/api"
)

// P11.1: in any order.

// TestInNoOrder does calls in no order, with adds between them, on a row of which leaves stand many times.
func TestInNoOrder(t *testing.T) {
	pool := append(row(30), api.Sum{}, plainRoot(nil))
	for seed := range 40 {
		chance := rand.New(rand.NewSource(int64(seed)))
		x := New()
		var leaves []api.Sum
		for range 400 {
			n := len(leaves)
			some := func() int { return chance.Intn(n+4) - 2 }
			switch chance.Intn(8) {
			case 0, 1:
				d := pool[chance.Intn(len(pool))]
				add(t, x, d, n)
				leaves = append(leaves, d)
			case 2:
				askLeaf(t, x, leaves, some())
			case 3:
				askRoot(t, x, leaves, some())
			case 4:
				askPath(t, x, leaves, some(), some())
			case 5:
				askBegins(t, x, leaves, some(), some())
			case 6:
				askFind(t, x, leaves, pool[chance.Intn(len(pool))])
			case 7:
				k := chance.Intn(12) - 2
				if got := x.Level(k); !slices.Equal(got, plainLevel(leaves, k)) || x.Len() != n {
					t.Fatalf("level %d of %d: %x", k, n, got)
				}
			}
		}
	}
}

func askLeaf(t *testing.T, x *Tree, leaves []api.Sum, i int) {
	t.Helper()
	var want api.Sum
	if i >= 0 && i < len(leaves) {
		want = leaves[i]
	}
	if got, err := x.Leaf(i); got != want || (err == nil) != (i >= 0 && i < len(leaves)) || err != nil && err != api.ErrRange {
		t.Fatalf("leaf %d of %d: %x, %v", i, len(leaves), got, err)
	}
}

func askRoot(t *testing.T, x *Tree, leaves []api.Sum, n int) {
	t.Helper()
	got, err := x.Root(n)
	if n < 0 || n > len(leaves) {
		if got != (api.Sum{}) || err != api.ErrRange {
			t.Fatalf("root %d of %d: %x, %v", n, len(leaves), got, err)
		}
	} else if got != plainRoot(leaves[:n]) || err != nil {
		t.Fatalf("root %d of %d: %x, %v", n, len(leaves), got, err)
	}
}

func askPath(t *testing.T, x *Tree, leaves []api.Sum, i, n int) {
	t.Helper()
	got, err := x.Path(i, n)
	if n < 0 || n > len(leaves) || i < 0 || i >= n {
		if len(got) != 0 || err != api.ErrRange {
			t.Fatalf("path %d of %d of %d: %x, %v", i, n, len(leaves), got, err)
		}
	} else if !slices.Equal(got, plainPath(leaves[:n], i)) || err != nil {
		t.Fatalf("path %d of %d of %d: %x, %v", i, n, len(leaves), got, err)
	}
}

func askBegins(t *testing.T, x *Tree, leaves []api.Sum, m, n int) {
	t.Helper()
	got, err := x.Begins(m, n)
	if n < 0 || n > len(leaves) || m < 1 || m > n {
		if len(got) != 0 || err != api.ErrRange {
			t.Fatalf("begins %d of %d of %d: %x, %v", m, n, len(leaves), got, err)
		}
	} else if !slices.Equal(got, plainBegins(leaves[:n], m)) || err != nil {
		t.Fatalf("begins %d of %d of %d: %x, %v", m, n, len(leaves), got, err)
	}
}

func askFind(t *testing.T, x *Tree, leaves []api.Sum, d api.Sum) {
	t.Helper()
	want := slices.Index(leaves, d)
	if at, ok := x.Find(d); at != max(want, 0) || ok != (want >= 0) {
		t.Fatalf("find in %d: %d, %v", len(leaves), at, ok)
	}
}

// P11.2: what was the digest of the first n stays it.

// TestFirstStay asks for the digests, paths and proofs of all beginnings ahead of each add, and again behind all of them.
func TestFirstStay(t *testing.T) {
	leaves := row(70)
	x := New()
	var roots []api.Sum
	var lists [][]api.Sum
	for n := range len(leaves) + 1 {
		roots = append(roots, root(t, x, n))
		for i := range n {
			lists = append(lists, path(t, x, i, n), begins(t, x, i+1, n))
		}
		for m, want := range roots {
			if got := root(t, x, m); got != want {
				t.Fatalf("the first %d of %d: %x, ahead of it %x", m, n, got, want)
			}
		}
		if n < len(leaves) {
			add(t, x, leaves[n], n)
		}
	}
	for n := range len(leaves) + 1 {
		for i := range n {
			if !slices.Equal(path(t, x, i, n), lists[0]) || !slices.Equal(begins(t, x, i+1, n), lists[1]) {
				t.Fatalf("%d of the first %d", i, n)
			}
			lists = lists[2:]
		}
	}
}

// TestFirstStayUnasked never asks ahead of an add, and asks from the last one on.
func TestFirstStayUnasked(t *testing.T) {
	leaves := row(70)
	asked, unasked := New(), New()
	roots := []api.Sum{root(t, asked, 0)}
	for i, d := range leaves {
		add(t, asked, d, i)
		add(t, unasked, d, i)
		roots = append(roots, root(t, asked, i+1))
	}
	for n, want := range slices.Backward(roots) {
		if got := root(t, unasked, n); got != want {
			t.Errorf("the first %d: %x, want %x", n, got, want)
		}
	}
}

// TestFirstAreTheSameInOtherRows has rows that are the same up to a place: so are the digests, and behind it they aren't.
func TestFirstAreTheSameInOtherRows(t *testing.T) {
	leaves := row(33)
	x := grown(t, leaves)
	for at := range leaves {
		y := grown(t, leaves[:at])
		for i, d := range others(33 - at) {
			add(t, y, d, at+i)
		}
		for n := range len(leaves) + 1 {
			if (root(t, x, n) == root(t, y, n)) != (n <= at) {
				t.Errorf("the first %d, unlike from %d on", n, at)
			}
		}
	}
}

// TestAsksChangeNothing asks what is refused and what isn't, between adds.
func TestAsksChangeNothing(t *testing.T) {
	leaves := row(33)
	x := New()
	for i, d := range leaves {
		for _, n := range append([]int{-1, 0, i, i + 1}, far[:]...) {
			x.Leaf(n)
			x.Root(n)
			x.Path(n, i)
			x.Path(0, n)
			x.Begins(n, i)
			x.Begins(1, n)
			x.Level(n)
		}
		x.Find(d)
		x.Find(others(1)[0])
		add(t, x, d, i)
	}
	same(t, x, leaves)
}
