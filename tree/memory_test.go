package tree

import (
	"slices"
	"testing"

	"cachet/api"
)

// P11.3: answers are new memory.

// scribble writes over a list, and over the room behind it.
func scribble(list []api.Sum) {
	list = list[:cap(list)]
	for i := range list {
		list[i] = api.Sum{0xee, byte(i)}
	}
}

// lists are the answers of all calls that make lists, at all arguments in range, and levels that aren't there.
func lists(t *testing.T, x *Tree) [][]api.Sum {
	t.Helper()
	var out [][]api.Sum
	for n := range x.Len() + 1 {
		for i := range n {
			out = append(out, path(t, x, i, n), begins(t, x, i+1, n))
		}
	}
	for k := range 8 {
		out = append(out, x.Level(k))
	}
	return out
}

// clones are lists that share nothing with the ones that they are copies of.
func clones(lists [][]api.Sum) [][]api.Sum {
	var out [][]api.Sum
	for _, l := range lists {
		out = append(out, slices.Clone(l))
	}
	return out
}

func alike(a, b [][]api.Sum) bool { return slices.EqualFunc(a, b, slices.Equal[[]api.Sum]) }

// TestAnswersAreNewMemory grows each answer, writes over it, and asks the others and the tree.
func TestAnswersAreNewMemory(t *testing.T) {
	for _, n := range []int{0, 1, 2, 3, 4, 5, 7, 8, 9} {
		x := grown(t, row(n))
		got := append(lists(t, x), lists(t, x)...)
		want := clones(got)
		for k := range got {
			scribble(append(got[k], api.Sum{1}))
			scribble(got[k])
			got[k] = slices.Clone(want[k])
			if !alike(got, want) {
				t.Errorf("%d leaves: answer %d shares memory with another one", n, k)
			}
			if !alike(lists(t, x), want[:len(want)/2]) {
				t.Fatalf("%d leaves: answer %d shares memory with the tree", n, k)
			}
		}
		same(t, x, row(n))
	}
}

// TestAnswersOfLongerRowsAreNewMemory writes over all answers at once.
func TestAnswersOfLongerRowsAreNewMemory(t *testing.T) {
	for _, n := range edges {
		x := grown(t, row(n))
		for _, list := range lists(t, x) {
			scribble(append(list, api.Sum{1}))
			scribble(list)
		}
		same(t, x, row(n))
	}
}

// TestAddsLeaveAnswers has levels that are grown by who asked and by the tree, which might grow into one room.
func TestAddsLeaveAnswers(t *testing.T) {
	leaves := row(70)
	x := New()
	var got, want [][]api.Sum
	for i, d := range leaves {
		for k := range 7 {
			level := x.Level(k)
			got = append(got, append(level, api.Sum{0xaa}))
			want = append(want, append(plainLevel(leaves[:i:i], k), api.Sum{0xaa}))
		}
		add(t, x, d, i)
		// The last one stands where the next leaf would.
		scribble(append(x.Level(0), api.Sum{0xbb}))
	}
	if !alike(got, want) {
		t.Error("an add has changed an answer")
	}
	same(t, x, leaves)
}

// TestTakesNothing has a leaf that is changed behind the add.
func TestTakesNothing(t *testing.T) {
	leaves := row(9)
	kept := slices.Clone(leaves)
	x := New()
	for i := range leaves {
		add(t, x, leaves[i], i)
	}
	if !slices.Equal(leaves, kept) {
		t.Error("changed")
	}
	scribble(leaves)
	same(t, x, kept)
}

// TestSameAgain asks all twice.
func TestSameAgain(t *testing.T) {
	x := grown(t, row(33))
	if !alike(lists(t, x), lists(t, x)) {
		t.Error("other answers")
	}
}
