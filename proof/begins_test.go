package proof

import (
	"math"
	"slices"
	"testing"

	"cachet/api"
	"cachet/leaf"
)

// P10.1: Begins.

// TestBeginsKnown holds proofs against digests that are written out.
func TestBeginsKnown(t *testing.T) {
	leaves := eight()
	for _, c := range []struct {
		m, n int
		want []string
	}{
		{1, 1, nil},
		{1, 8, []string{
			"96a296d224f285c67bee93c30f8a309157f0daa35dc5b87e410b78630a09cfc7",
			"5f083f0a1a33ca076a95279832580db3e0ef4584bdff1f54c8a360f50de3031e",
			"6b47aaf29ee3c2af9af889bc1fb9254dabd31177f16232dd6aab035ca39bf6e4",
		}},
		{6, 8, []string{
			"0ebc5d3437fbe2db158b9f126a1d118e308181031d0a949f8dededebc558ef6a",
			"ca854ea128ed050b41b35ffc1b87b8eb2bde461e9e3b5596ece6b9d5975a0ae0",
			"d37ee418976dd95753c1c73862b9398fa2a2cf9b4ff0fdfe8b30cd95209614b7",
		}},
		{2, 5, []string{
			"5f083f0a1a33ca076a95279832580db3e0ef4584bdff1f54c8a360f50de3031e",
			"bc1a0643b12e4d2d7c77918f44e0f4f79a838b6cf9ec5b5c283e1f4d88599e6b",
		}},
	} {
		got, want := begins(t, leaves[:c.n], c.m), written(t, c.want...)
		if !slices.Equal(got, want) {
			t.Errorf("%d of %d: %x", c.m, c.n, got)
		}
	}
}

// TestBeginsWrittenOut has the proofs of a row of seven, put together by hand.
func TestBeginsWrittenOut(t *testing.T) {
	r := row(7)
	two := func(i int) api.Sum { return pair(r[i], r[i+1]) }
	four, three := pair(two(0), two(2)), pair(two(4), r[6])
	for k, want := range [][]api.Sum{
		{r[1], two(2), three},
		{two(2), three},
		{r[2], r[3], two(0), three},
		{three},
		{r[4], r[5], r[6], four},
		{two(4), r[6], four},
		{},
	} {
		if got := begins(t, r, k+1); !slices.Equal(got, want) {
			t.Errorf("the first %d: %x", k+1, got)
		}
	}
}

func TestBeginsAtTheEnds(t *testing.T) {
	for _, n := range edges {
		leaves := row(n)
		for _, m := range append([]int{-1, 0, 1, 2, 4, 8, 16, n - 1, n, n + 1}, far[:]...) {
			got, err := Begins(leaves, m)
			if m < 1 || m > n {
				if err != api.ErrRange || len(got) != 0 {
					t.Errorf("%d of %d: %x, %v", m, n, got, err)
				}
			} else if err != nil || !slices.Equal(got, plainBegins(leaves, m)) {
				t.Errorf("%d of %d: %x, %v", m, n, got, err)
			}
		}
	}
}

func TestBeginsOfNone(t *testing.T) {
	for _, leaves := range [][]api.Sum{nil, {}, row(3)[:0]} {
		for _, m := range []int{-1, 0, 1} {
			if got, err := Begins(leaves, m); err != api.ErrRange || len(got) != 0 {
				t.Errorf("%d: %x, %v", m, got, err)
			}
		}
	}
}

func TestBeginsOfAllIsNothing(t *testing.T) {
	for n := 1; n <= 70; n++ {
		if got := begins(t, row(n), n); len(got) != 0 {
			t.Errorf("%d: %x", n, got)
		}
	}
}

func TestBeginsOfEveryBeginning(t *testing.T) {
	for n := 1; n <= 33; n++ {
		leaves := row(n)
		for m := 1; m <= n; m++ {
			got := begins(t, leaves, m)
			if !slices.Equal(got, plainBegins(leaves, m)) || !slices.Equal(got, toldProve(m, leaves, true)) {
				t.Errorf("%d of %d: %x", m, n, got)
			}
		}
	}
}

func TestBeginsOfLongRows(t *testing.T) {
	for _, n := range []int{63, 64, 65, 127, 128, 129, 1000, 1023, 1024, 1025} {
		leaves := row(n)
		for _, m := range []int{1, 2, 3, 16, 32, 33, 63, n / 3, n / 2, n - 2, n - 1, n} {
			if got := begins(t, leaves, m); !slices.Equal(got, plainBegins(leaves, m)) {
				t.Errorf("%d of %d: %x", m, n, got)
			}
		}
	}
}

// P10.1: Extends.

// TestExtendsFromAll has m equal to n: nothing must be proved, and both digests are the same.
func TestExtendsFromAll(t *testing.T) {
	d, e := row(2)[0], row(2)[1]
	for _, n := range []int{1, 2, 3, 4, 5, 7, 8, 9, 1<<20 - 1, 1 << 20} {
		for _, p := range [][]api.Sum{nil, {}, row(3)[:0]} {
			if !Extends(n, n, d, d, p) || !Extends(n, n, api.Sum{}, api.Sum{}, p) {
				t.Error(n, "the same")
			}
			if Extends(n, n, d, e, p) || Extends(n, n, e, d, p) || Extends(n, n, api.Sum{}, d, p) {
				t.Error(n, "unlike")
			}
		}
		for _, p := range [][]api.Sum{{d}, {e}, {api.Sum{}}, {d, d}, {d, e}} {
			if Extends(n, n, d, d, p) || Extends(n, n, d, e, p) || Extends(n, n, e, e, p) {
				t.Errorf("%d, by %x", n, p)
			}
		}
		// Two put together are no proof that one is the beginning of itself.
		if Extends(n, n, d, leaf.Node(d, e), []api.Sum{e}) || Extends(n, n, leaf.Node(d, e), leaf.Node(d, e), []api.Sum{d, e}) {
			t.Error(n)
		}
	}
}

// TestExtendsOutOfRange has digests that would do in range: the same, and what a proof comes to.
func TestExtendsOutOfRange(t *testing.T) {
	d := row(1)[0]
	some := others(30)
	for _, n := range append([]int{0, 1, 2, 5, 8, 1 << 20}, far[:]...) {
		for _, m := range append([]int{-1, 0, 1, n - 1, n, n + 1}, far[:]...) {
			if n >= 1 && n <= 1<<20 && m >= 1 && m <= n {
				continue
			}
			for l := range some {
				if Extends(m, n, d, d, some[:l]) || Extends(m, n, api.Sum{}, api.Sum{}, some[:l]) {
					t.Error(m, n, l)
				}
			}
		}
	}
	leaves := row(9)
	for n := 1; n <= 9; n++ {
		root := plainRoot(leaves[:n])
		if Extends(0, n, leaf.Empty(), root, nil) || Extends(0, n, root, root, nil) || Extends(0, n, leaf.Empty(), root, []api.Sum{root}) {
			t.Error(n, "from nothing")
		}
		if Extends(n+1, n, root, root, nil) || Extends(n+1, n, plainRoot(row(n+1)), root, begins(t, row(n+1), n)) {
			t.Error(n, "from more")
		}
	}
	if Extends(0, 0, leaf.Empty(), leaf.Empty(), nil) || Extends(math.MinInt, math.MinInt, d, d, nil) || Extends(math.MinInt, 1, d, d, nil) {
		t.Error("nothing")
	}
}

// TestExtendsBound has the greatest n that there is, and one more.
func TestExtendsBound(t *testing.T) {
	some := others(25)
	d := some[24]
	root := d
	for _, c := range some[:20] {
		root = pair(root, c)
	}
	if !Extends(1, 1<<20, d, root, some[:20]) || Extends(1, 1<<20, d, root, some[:19]) || Extends(1, 1<<20, d, root, some[:21]) {
		t.Error("the first one")
	}
	// All but the last one: the last but one, the last one, and the parts ahead of both.
	first, all := some[0], pair(some[0], some[1])
	for _, c := range some[2:21] {
		first, all = pair(c, first), pair(c, all)
	}
	if !Extends(1<<20-1, 1<<20, first, all, some[:21]) || Extends(1<<20-1, 1<<20, first, all, some[:20]) || Extends(1<<20-1, 1<<20, first, all, some[:22]) {
		t.Error("all but one")
	}
	half := pair(d, some[0])
	if !Extends(1<<19, 1<<20, d, half, some[:1]) || !Extends(1<<19, 1<<19+1, d, half, some[:1]) {
		t.Error("one half")
	}
	if Extends(1<<20, 1<<20+1, d, half, some[:1]) || Extends(1<<20+1, 1<<20+1, d, d, nil) || Extends(1, 1<<20+1, d, pair(root, some[20]), some[:21]) {
		t.Error("more than a log holds")
	}
}

// TestExtendsOfAnyDigests has proofs that no row has, with both digests as they come to, of each length.
func TestExtendsOfAnyDigests(t *testing.T) {
	some := others(12)
	for n := 1; n <= 33; n++ {
		for m := 1; m <= n; m++ {
			length := len(plainBegins(make([]api.Sum, n), m))
			old, root := came(m, n, some[11], some[:length])
			for l := range some {
				want := l == length
				if plainExtends(m, n, old, root, some[:l]) != want {
					t.Fatal(m, n, l)
				}
				if got := Extends(m, n, old, root, some[:l]); got != want {
					t.Errorf("%d of %d, %d digests: %v", m, n, l, got)
				}
			}
		}
	}
}

// came is what a proof comes to, by the chapter's PROVE read backward: d stands in place of what it leaves out.
func came(m, n int, d api.Sum, proof []api.Sum) (old, root api.Sum) {
	var from func(m, n int, all bool, proof []api.Sum) (api.Sum, api.Sum)
	from = func(m, n int, all bool, proof []api.Sum) (api.Sum, api.Sum) {
		if m == n && all {
			return d, d
		}
		if m == n {
			return proof[0], proof[0]
		}
		k, last := toldCut(n), len(proof)-1
		if m <= k {
			a, b := from(m, k, all, proof[:last])
			return a, pair(b, proof[last])
		}
		a, b := from(m-k, n-k, false, proof[:last])
		return pair(proof[last], a), pair(proof[last], b)
	}
	return from(m, n, true, proof)
}

func TestExtendsAnotherOne(t *testing.T) {
	for _, n := range edges {
		leaves := row(n)
		for m := 1; m <= n; m++ {
			old, root := plainRoot(leaves[:m]), plainRoot(leaves)
			p := begins(t, leaves, m)
			if !Extends(m, n, old, root, p) {
				t.Errorf("%d of %d", m, n)
			}
			for bit := range 256 {
				if Extends(m, n, turned(old, bit), root, p) || Extends(m, n, old, turned(root, bit), p) {
					t.Errorf("%d of %d: bit %d of a digest turned", m, n, bit)
				}
				for k, d := range p {
					if Extends(m, n, old, root, with(p, k, turned(d, bit))) {
						t.Errorf("%d of %d: bit %d of digest %d turned", m, n, bit, k)
					}
				}
			}
			if m < n && (Extends(m, n, root, root, p) || Extends(m, n, old, old, p) || Extends(m, n, root, old, p)) {
				t.Errorf("%d of %d: one digest in the other one's stead", m, n)
			}
		}
	}
}

func TestExtendsByAProofOfAnotherLength(t *testing.T) {
	for n := 1; n <= 33; n++ {
		leaves := row(n)
		root := plainRoot(leaves)
		for m := 1; m <= n; m++ {
			old := plainRoot(leaves[:m])
			p := begins(t, leaves, m)
			for l := range p {
				if Extends(m, n, old, root, p[:l]) || Extends(m, n, old, root, p[l+1:]) || Extends(m, n, old, root, slices.Delete(slices.Clone(p), l, l+1)) {
					t.Errorf("%d of %d: without digests at %d", m, n, l)
				}
			}
			for _, d := range []api.Sum{old, root, {}, leaves[0]} {
				for at := range len(p) + 1 {
					if Extends(m, n, old, root, slices.Insert(slices.Clone(p), at, d)) {
						t.Errorf("%d of %d: one more at %d", m, n, at)
					}
				}
			}
			// What the whole and one more come to is another row's digest.
			if Extends(m, n, old, pair(root, old), append(slices.Clone(p), old)) {
				t.Errorf("%d of %d: one more on top", m, n)
			}
		}
	}
}

// TestExtendsFromOtherLengths has a proof as one of other m and n: at times they tell the same sides, and then it extends, as the chapter reckons it.
func TestExtendsFromOtherLengths(t *testing.T) {
	held := 0
	for n := 1; n <= 12; n++ {
		leaves := row(n)
		root := plainRoot(leaves)
		for m := 1; m <= n; m++ {
			old := plainRoot(leaves[:m])
			p := begins(t, leaves, m)
			for b := -1; b <= 20; b++ {
				for a := -1; a <= 20; a++ {
					want := b >= 1 && a >= 1 && a <= b && plainExtends(a, b, old, root, p)
					if got := Extends(a, b, old, root, p); got != want {
						t.Errorf("%d of %d, as %d of %d: %v", m, n, a, b, got)
					}
					if want && (a != m || b != n) {
						held++
					}
				}
			}
		}
	}
	if r := row(5); held == 0 || !Extends(2, 6, plainRoot(r[:2]), plainRoot(r), begins(t, r, 2)) {
		t.Error(held)
	}
}

func TestExtendsByAProofInAnotherOrder(t *testing.T) {
	leaves := row(33)
	root := plainRoot(leaves)
	for m := 1; m < 33; m++ {
		old := plainRoot(leaves[:m])
		p := begins(t, leaves, m)
		for b := range p {
			for a := range b {
				p[a], p[b] = p[b], p[a]
				if Extends(m, 33, old, root, p) {
					t.Errorf("%d: digests %d and %d changed about", m, a, b)
				}
				p[a], p[b] = p[b], p[a]
			}
		}
	}
}

// P10.2: the proof of a beginning extends.

func TestBeginningExtends(t *testing.T) {
	for n := 1; n <= 33; n++ {
		first := leaf.Leaf(nil)
		mixed := row(n)
		for i := range mixed {
			if i%3 == 1 {
				mixed[i] = leaf.Node(first, first)
			}
		}
		for _, leaves := range [][]api.Sum{row(n), make([]api.Sum, n), slices.Repeat([]api.Sum{first}, n), mixed} {
			root := leaf.Root(leaves)
			for m := 1; m <= n; m++ {
				old, p := leaf.Root(leaves[:m]), begins(t, leaves, m)
				if !Extends(m, n, old, root, p) || !plainExtends(m, n, old, root, p) {
					t.Errorf("%d of %d", m, n)
				}
			}
		}
	}
}

func TestBeginningExtendsInLongRows(t *testing.T) {
	for _, n := range []int{64, 65, 127, 1000, 1024, 1025} {
		leaves := row(n)
		root := leaf.Root(leaves)
		for _, m := range []int{1, 2, 3, 31, 32, 33, 63, n / 3, n / 2, n - 1, n} {
			if !Extends(m, n, leaf.Root(leaves[:m]), root, begins(t, leaves, m)) {
				t.Errorf("%d of %d", m, n)
			}
		}
	}
}

// P10.4 can't be broken by a text with another one's digest: none is known. What would break it without one is a proof
// that extends from a digest of the row's parts in the stead of that of the first m.

// TestNoOtherBeginningExtends has every proof out of the row's own digests, from every one of them.
func TestNoOtherBeginningExtends(t *testing.T) {
	for n := 1; n <= 5; n++ {
		leaves := row(n)
		root := plainRoot(leaves)
		pool := nodes(leaves)
		for m := 1; m <= n; m++ {
			old, want := plainRoot(leaves[:m]), begins(t, leaves, m)
			held := 0
			for _, p := range everyList(pool, len(want)) {
				// The first three of five are no part of that row: their digest isn't among its own.
				for _, d := range append(slices.Clip(pool), old, api.Sum{}) {
					if !Extends(m, n, d, root, p) {
						continue
					}
					held++
					if d != old || !slices.Equal(p, want) {
						t.Errorf("%d of %d: from %x by %x", m, n, d, p)
					}
				}
			}
			if held == 0 {
				t.Errorf("%d of %d: none", m, n)
			}
		}
	}
}

// TestNoOtherBeginningExtendsByAProofOfTheRow has all digests of longer rows and of their beginnings, by the proof of each.
func TestNoOtherBeginningExtendsByAProofOfTheRow(t *testing.T) {
	for _, n := range []int{6, 7, 8, 9, 13, 16, 17} {
		leaves := row(n)
		root := plainRoot(leaves)
		all := nodes(leaves)
		for m := 1; m <= n; m++ {
			all = append(all, plainRoot(leaves[:m]))
		}
		for m := 1; m <= n; m++ {
			old := plainRoot(leaves[:m])
			for k := 1; k <= n; k++ {
				p := begins(t, leaves, k)
				for _, d := range all {
					if Extends(m, n, d, root, p) != (d == old && k == m) {
						t.Errorf("%d of %d: from %x by the proof of %d", m, n, d, k)
					}
				}
			}
		}
	}
}

// TestAnotherRowExtendsNot: a row with one leaf changed has no proof that its first m began this one, unless that leaf lies behind them.
func TestAnotherRowExtendsNot(t *testing.T) {
	for n := 1; n <= 17; n++ {
		leaves := row(n)
		root := plainRoot(leaves)
		for j := range n {
			other := with(leaves, j, others(1)[0])
			for m := 1; m <= n; m++ {
				old := plainRoot(other[:m])
				for _, p := range [][]api.Sum{begins(t, leaves, m), begins(t, other, m)} {
					if Extends(m, n, old, root, p) && j < m {
						t.Errorf("%d of %d, %d another one", m, n, j)
					}
				}
				if !Extends(m, n, old, plainRoot(other), begins(t, other, m)) || Extends(m, n, old, root, begins(t, leaves, m)) != (j >= m) {
					t.Errorf("%d of %d, %d another one", m, n, j)
				}
			}
		}
	}
}
