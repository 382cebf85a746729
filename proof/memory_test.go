package proof

import (
	"slices"
	"testing"

	"cachet/api"
)

// P10.5: what is handed in is neither changed nor kept; answers are new memory.

// amid are n digests in the midst of others, room behind them included.
func amid(some []api.Sum) (all, part []api.Sum) {
	all = slices.Concat(others(7), some, others(40))
	return all, all[7 : 7+len(some)]
}

// scribble writes over a list, and over the room behind it.
func scribble(list []api.Sum) {
	list = list[:cap(list)]
	for i := range list {
		list[i] = api.Sum{0xee, byte(i)}
	}
}

// made are the answers of both calls that make lists, for every leaf and every beginning of a row.
func made(t *testing.T, leaves []api.Sum) [][]api.Sum {
	t.Helper()
	var out [][]api.Sum
	for i := range leaves {
		out = append(out, path(t, leaves, i), begins(t, leaves, i+1))
	}
	return out
}

// clones are lists that share nothing with the ones that they are copies of.
func clones(lists [][]api.Sum) [][]api.Sum {
	var out [][]api.Sum
	for _, l := range lists {
		out = append(out, slices.Clone(l))
	}
	return out
}

func same(a, b [][]api.Sum) bool { return slices.EqualFunc(a, b, slices.Equal[[]api.Sum]) }

func TestRowsAreNeitherChangedNorKept(t *testing.T) {
	for n := range 34 {
		all, leaves := amid(row(n))
		kept := slices.Clone(all)
		got := made(t, leaves)
		want := clones(got)
		for _, beyond := range []int{-1, n + 1} {
			if _, err := Path(leaves, beyond); err != api.ErrRange {
				t.Error(n, beyond, err)
			}
			if _, err := Begins(leaves, beyond); err != api.ErrRange {
				t.Error(n, beyond, err)
			}
		}
		if !slices.Equal(all, kept) {
			t.Errorf("%d leaves: changed", n)
		}
		scribble(all)
		if !same(got, want) {
			t.Errorf("%d leaves: the answers hang on what was handed in", n)
		}
		for i := range leaves {
			if !slices.Equal(path(t, leaves, i), plainPath(leaves, i)) || !slices.Equal(begins(t, leaves, i+1), plainBegins(leaves, i+1)) {
				t.Errorf("%d leaves: kept", n)
			}
		}
	}
}

// TestAnswersAreNewMemory writes over each answer, grows it, and asks the others and the row.
func TestAnswersAreNewMemory(t *testing.T) {
	for n := range 18 {
		all, leaves := amid(row(n))
		kept := slices.Clone(all)
		got := append(made(t, leaves), made(t, leaves)...)
		want := clones(got)
		for k := range got {
			scribble(append(got[k], api.Sum{1}))
			scribble(got[k])
			got[k] = slices.Clone(want[k])
			if !same(got, want) || !slices.Equal(all, kept) {
				t.Errorf("%d leaves: answer %d shares memory", n, k)
			}
		}
		if !same(made(t, leaves), want[:2*n]) {
			t.Errorf("%d leaves: an answer was kept", n)
		}
	}
}

func TestPathsAreNeitherChangedNorKept(t *testing.T) {
	for n := 1; n <= 33; n++ {
		leaves := row(n)
		root := plainRoot(leaves)
		for i := range n {
			p := path(t, leaves, i)
			all, part := amid(p)
			kept := slices.Clone(all)
			came, err := Come(leaves[i], i, n, part)
			if err != nil || came != root || !Holds(leaves[i], i, n, part, root) {
				t.Fatal(n, i, err)
			}
			// With one more, which stands in the room behind it, it is refused.
			if _, err := Come(leaves[i], i, n, part[:len(p)+1]); err != api.ErrProof || Holds(leaves[i], i, n, part[:len(p)+1], root) {
				t.Error(n, i, err)
			}
			if _, err := Come(leaves[i], n, n, part); err != api.ErrRange {
				t.Error(n, i, err)
			}
			if !slices.Equal(all, kept) {
				t.Errorf("leaf %d of %d: changed", i, n)
			}
			scribble(all)
			if n > 1 && Holds(leaves[i], i, n, part, root) {
				t.Errorf("leaf %d of %d: kept", i, n)
			}
			if want, _ := plainCome(leaves[i], i, n, part); came != root {
				t.Errorf("leaf %d of %d: the answer hangs on what was handed in", i, n)
			} else if again, err := Come(leaves[i], i, n, part); err != nil || again != want {
				t.Errorf("leaf %d of %d: %x, %v", i, n, again, err)
			}
		}
	}
}

func TestProofsAreNeitherChangedNorKept(t *testing.T) {
	for n := 1; n <= 33; n++ {
		leaves := row(n)
		root := plainRoot(leaves)
		for m := 1; m <= n; m++ {
			old, p := plainRoot(leaves[:m]), begins(t, leaves, m)
			all, part := amid(p)
			kept := slices.Clone(all)
			if !Extends(m, n, old, root, part) || Extends(m, n, old, root, part[:len(p)+1]) || Extends(m, n, root, old, part) != (m == n) {
				t.Errorf("%d of %d", m, n)
			}
			if !slices.Equal(all, kept) {
				t.Errorf("%d of %d: changed", m, n)
			}
			scribble(all)
			if m < n && Extends(m, n, old, root, part) {
				t.Errorf("%d of %d: kept", m, n)
			}
			copy(part, p)
			if !Extends(m, n, old, root, part) {
				t.Errorf("%d of %d: not as it was", m, n)
			}
		}
	}
}

// TestSameAgain asks the same things again, with others between, refused ones among them.
func TestSameAgain(t *testing.T) {
	leaves := row(21)
	root, old := plainRoot(leaves), plainRoot(leaves[:13])
	p, q := path(t, leaves, 17), begins(t, leaves, 13)
	for n := range 34 {
		made(t, others(n))
		Path(leaves, 21+n)
		Begins(leaves, -n)
		Come(root, n, 21, p)
		Extends(n, 21, old, root, q)
		if !slices.Equal(path(t, leaves, 17), p) || !slices.Equal(begins(t, leaves, 13), q) {
			t.Error(n, "another answer")
		}
		if !Holds(leaves[17], 17, 21, p, root) || !Extends(13, 21, old, root, q) || Length(17, 21) != len(p) {
			t.Error(n, "another answer")
		}
	}
}
