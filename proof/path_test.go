package proof

import (
	"math"
	"slices"
	"testing"

	"cachet/api"
	"cachet/leaf"
)

// P10.1: Path.

func TestExample(t *testing.T) {
	leaves := row(5)
	for i, want := range map[int]int{4: 1, 0: 3} {
		if got := path(t, leaves, i); len(got) != want {
			t.Errorf("leaf %d: %x", i, got)
		}
		if got := Length(i, 5); got != want {
			t.Error(i, got)
		}
	}
}

// eight are leaves whose digests are known.
func eight() []api.Sum {
	var out []api.Sum
	for _, text := range []string{
		"", "\x00", "\x10", "\x20\x21", "\x30\x31", "\x40\x41\x42\x43",
		"\x50\x51\x52\x53\x54\x55\x56\x57", "\x60\x61\x62\x63\x64\x65\x66\x67\x68\x69\x6a\x6b\x6c\x6d\x6e\x6f",
	} {
		out = append(out, leaf.Leaf([]byte(text)))
	}
	return out
}

// TestPathKnown holds paths against digests that are written out.
func TestPathKnown(t *testing.T) {
	leaves := eight()
	for _, c := range []struct {
		i, n int
		want []string
	}{
		{0, 1, nil},
		{0, 8, []string{
			"96a296d224f285c67bee93c30f8a309157f0daa35dc5b87e410b78630a09cfc7",
			"5f083f0a1a33ca076a95279832580db3e0ef4584bdff1f54c8a360f50de3031e",
			"6b47aaf29ee3c2af9af889bc1fb9254dabd31177f16232dd6aab035ca39bf6e4",
		}},
		{5, 8, []string{
			"bc1a0643b12e4d2d7c77918f44e0f4f79a838b6cf9ec5b5c283e1f4d88599e6b",
			"ca854ea128ed050b41b35ffc1b87b8eb2bde461e9e3b5596ece6b9d5975a0ae0",
			"d37ee418976dd95753c1c73862b9398fa2a2cf9b4ff0fdfe8b30cd95209614b7",
		}},
		{2, 3, []string{
			"fac54203e7cc696cf0dfcb42c92a1d9dbaf70ad9e621f4bd8d98662f00e3c125",
		}},
		{1, 5, []string{
			"6e340b9cffb37a989ca544e6bb780a2c78901d3fb33738768511a30617afa01d",
			"5f083f0a1a33ca076a95279832580db3e0ef4584bdff1f54c8a360f50de3031e",
			"bc1a0643b12e4d2d7c77918f44e0f4f79a838b6cf9ec5b5c283e1f4d88599e6b",
		}},
	} {
		got, want := path(t, leaves[:c.n], c.i), written(t, c.want...)
		if !slices.Equal(got, want) {
			t.Errorf("leaf %d of %d: %x", c.i, c.n, got)
		}
	}
}

// TestPathWrittenOut has the paths of a row of seven, put together by hand.
func TestPathWrittenOut(t *testing.T) {
	r := row(7)
	two := func(i int) api.Sum { return pair(r[i], r[i+1]) }
	four, three := pair(two(0), two(2)), pair(two(4), r[6])
	for i, want := range [][]api.Sum{
		{r[1], two(2), three},
		{r[0], two(2), three},
		{r[3], two(0), three},
		{r[2], two(0), three},
		{r[5], r[6], four},
		{r[4], r[6], four},
		{two(4), four},
	} {
		if got := path(t, r, i); !slices.Equal(got, want) {
			t.Errorf("leaf %d: %x", i, got)
		}
	}
}

func TestPathAtTheEnds(t *testing.T) {
	for _, n := range edges {
		leaves := row(n)
		for _, i := range append([]int{-1, 0, 1, n - 2, n - 1, n, n + 1}, far[:]...) {
			got, err := Path(leaves, i)
			if i < 0 || i > n-1 {
				if err != api.ErrRange || len(got) != 0 {
					t.Errorf("leaf %d of %d: %x, %v", i, n, got, err)
				}
			} else if err != nil || !slices.Equal(got, plainPath(leaves, i)) {
				t.Errorf("leaf %d of %d: %x, %v", i, n, got, err)
			}
		}
	}
}

func TestPathOfNone(t *testing.T) {
	for _, leaves := range [][]api.Sum{nil, {}, row(3)[:0]} {
		for _, i := range []int{-1, 0, 1} {
			if got, err := Path(leaves, i); err != api.ErrRange || len(got) != 0 {
				t.Errorf("%d: %x, %v", i, got, err)
			}
		}
	}
}

func TestPathOfEveryLeaf(t *testing.T) {
	for n := 1; n <= 33; n++ {
		leaves := row(n)
		for i := range n {
			got := path(t, leaves, i)
			if !slices.Equal(got, plainPath(leaves, i)) || !slices.Equal(got, toldPath(leaves, i)) {
				t.Errorf("leaf %d of %d: %x", i, n, got)
			}
		}
	}
}

func TestPathOfLongRows(t *testing.T) {
	for _, n := range []int{63, 64, 65, 127, 128, 129, 1000, 1023, 1024, 1025} {
		leaves := row(n)
		for _, i := range []int{0, 1, n / 3, n / 2, n - 2, n - 1} {
			if got := path(t, leaves, i); !slices.Equal(got, plainPath(leaves, i)) {
				t.Errorf("leaf %d of %d: %x", i, n, got)
			}
		}
	}
}

// TestRowsBeyondALog: of these two calls no bound is said, but of those that ask the answers.
func TestRowsBeyondALog(t *testing.T) {
	if testing.Short() {
		t.Skip("takes seconds")
	}
	leaves := make([]api.Sum, 1<<20+1)
	leaves[1<<20] = api.Sum{1}
	up := api.Sum{}
	for range 20 {
		up = pair(up, up)
	}
	p := path(t, leaves, 1<<20)
	if !slices.Equal(p, []api.Sum{up}) {
		t.Errorf("%x", p)
	}
	q := begins(t, leaves, 1<<20)
	if !slices.Equal(q, []api.Sum{{1}}) {
		t.Errorf("%x", q)
	}
	whole := pair(up, api.Sum{1})
	if _, err := Come(api.Sum{1}, 1<<20, 1<<20+1, p); err != api.ErrRange {
		t.Error(err)
	}
	if Holds(api.Sum{1}, 1<<20, 1<<20+1, p, whole) || Extends(1<<20, 1<<20+1, up, whole, q) {
		t.Error("taken, of more than a log holds")
	}
	if all, err := Path(leaves, 1<<20+1); err != api.ErrRange || len(all) != 0 {
		t.Errorf("%x, %v", all, err)
	}
	// Without the last one it is a log's whole row.
	if !Holds(api.Sum{}, 1<<20-3, 1<<20, path(t, leaves[:1<<20], 1<<20-3), up) {
		t.Error("the greatest row")
	}
}

// P10.1: Length.

func TestLengthAtTheEnds(t *testing.T) {
	for _, n := range append([]int{0, 1, 2, 1<<20 - 1, 1 << 20}, far[:]...) {
		for _, i := range append([]int{-1, 0, 1, n - 2, n - 1, n, n + 1}, far[:]...) {
			want := -1
			if n >= 1 && n <= 1<<20 && i >= 0 && i < n {
				want = plainLength(i, n)
			}
			if got := Length(i, n); got != want {
				t.Error(i, n, got, want)
			}
		}
	}
}

func TestLengthOfALog(t *testing.T) {
	for _, c := range []struct{ i, n, want int }{
		{0, 1, 0}, {0, 2, 1}, {1, 2, 1}, {0, 3, 2}, {2, 3, 1}, {6, 7, 2},
		{0, 1 << 20, 20}, {1<<20 - 1, 1 << 20, 20}, {0, 1<<20 - 1, 20}, {1<<20 - 2, 1<<20 - 1, 19},
		{1 << 19, 1<<19 + 1, 1}, {0, 1<<19 + 1, 20}, {1 << 19, 1 << 20, 20},
		{0, 1<<20 + 1, -1}, {1 << 20, 1<<20 + 1, -1}, {1 << 20, 1 << 20, -1},
	} {
		if got := Length(c.i, c.n); got != c.want {
			t.Error(c.i, c.n, got, c.want)
		}
	}
}

func TestLength(t *testing.T) {
	for n := range 300 {
		for i := range n {
			if got := Length(i, n); got != plainLength(i, n) {
				t.Error(i, n, got)
			}
		}
		if Length(-1, n) != -1 || Length(n, n) != -1 {
			t.Error(n, Length(-1, n), Length(n, n))
		}
	}
	for k := 9; k <= 20; k++ {
		for _, n := range []int{1<<k - 1, 1 << k, 1<<k - 1<<(k/2)} {
			for i := 0; i < n; i += 1 + n/97 {
				if got := Length(i, n); got != plainLength(i, n) {
					t.Error(i, n, got)
				}
			}
		}
	}
}

// TestLengthIsThePaths: a path has as many digests as is told, and no others come to anything.
func TestLengthIsThePaths(t *testing.T) {
	for n := 1; n <= 33; n++ {
		leaves := row(n)
		for i := range n {
			if got := Length(i, n); got != len(path(t, leaves, i)) {
				t.Error(i, n, got)
			}
		}
	}
}

// P10.1: Come.

// TestComeAtTheEnds has paths of each length there, so that where both apply, the first error is told.
func TestComeAtTheEnds(t *testing.T) {
	some := others(30)
	for _, n := range append([]int{0, 1, 2, 1<<20 - 1, 1 << 20}, far[:]...) {
		for _, i := range append([]int{-1, 0, 1, n - 1, n}, far[:]...) {
			inside := n >= 1 && n <= 1<<20 && i >= 0 && i < n
			length := 0
			if inside {
				length = plainLength(i, n)
			}
			for _, l := range []int{0, length - 1, length, length + 1, 20, 21, 30} {
				if l < 0 {
					continue
				}
				got, err := Come(some[0], i, n, some[:l])
				want, _ := plainCome(some[0], max(i, 0), max(n, 1), some[:l])
				switch {
				case !inside:
					if err != api.ErrRange || got != (api.Sum{}) {
						t.Errorf("leaf %d of %d, %d digests: %x, %v", i, n, l, got, err)
					}
				case l != length:
					if err != api.ErrProof || got != (api.Sum{}) {
						t.Errorf("leaf %d of %d, %d digests: %x, %v", i, n, l, got, err)
					}
				case err != nil || got != want:
					t.Errorf("leaf %d of %d, %d digests: %x, %v, want %x", i, n, l, got, err, want)
				}
			}
		}
	}
}

func TestComeOfOne(t *testing.T) {
	d := row(1)[0]
	for _, p := range [][]api.Sum{nil, {}, row(3)[:0]} {
		if got, err := Come(d, 0, 1, p); err != nil || got != d {
			t.Errorf("%x, %v", got, err)
		}
	}
	if got, err := Come(d, 0, 1, []api.Sum{d}); err != api.ErrProof || got != (api.Sum{}) {
		t.Errorf("%x, %v", got, err)
	}
}

// TestComeOfAnyDigests has paths that no row has: sides are told by i and n alone.
func TestComeOfAnyDigests(t *testing.T) {
	some := others(12)
	for n := 1; n <= 33; n++ {
		for i := range n {
			for l := range some {
				got, err := Come(some[11], i, n, some[:l])
				want, ok := plainCome(some[11], i, n, some[:l])
				if ok != (l == plainLength(i, n)) {
					t.Fatal(i, n, l, ok)
				}
				if ok && (err != nil || got != want) || !ok && (err != api.ErrProof || got != (api.Sum{})) {
					t.Errorf("leaf %d of %d, %d digests: %x, %v", i, n, l, got, err)
				}
			}
		}
	}
}

func TestComeOfALog(t *testing.T) {
	some := others(21)
	for _, n := range []int{1 << 20, 1<<20 - 1, 1<<19 + 1, 1 << 19, 777777, 1<<16 + 3} {
		for _, i := range []int{0, 1, n / 7, n / 2, n - 3, n - 2, n - 1} {
			l := plainLength(i, n)
			got, err := Come(some[20], i, n, some[:l])
			if want, _ := plainCome(some[20], i, n, some[:l]); err != nil || got != want {
				t.Errorf("leaf %d of %d: %x, %v", i, n, got, err)
			}
		}
	}
}

// TestComeByHand tells on which sides the path's digests stand.
func TestComeByHand(t *testing.T) {
	s := others(4)
	x, a, b, c := s[0], s[1], s[2], s[3]
	for _, k := range []struct {
		i, n int
		path []api.Sum
		want api.Sum
	}{
		{0, 2, s[1:2], pair(x, a)},
		{1, 2, s[1:2], pair(a, x)},
		{0, 3, s[1:3], pair(pair(x, a), b)},
		{1, 3, s[1:3], pair(pair(a, x), b)},
		{2, 3, s[1:2], pair(a, x)},
		{2, 5, s[1:4], pair(pair(b, pair(x, a)), c)},
		{3, 5, s[1:4], pair(pair(b, pair(a, x)), c)},
		{4, 5, s[1:2], pair(a, x)},
		{4, 7, s[1:4], pair(c, pair(pair(x, a), b))},
		{5, 7, s[1:4], pair(c, pair(pair(a, x), b))},
		{6, 7, s[1:3], pair(b, pair(a, x))},
		{5, 8, s[1:4], pair(c, pair(pair(a, x), b))},
	} {
		if got, err := Come(x, k.i, k.n, k.path); err != nil || got != k.want {
			t.Errorf("leaf %d of %d: %x, %v", k.i, k.n, got, err)
		}
	}
}

// P10.1: Holds.

// TestHoldsNothingWithAnError: beside an error stands the digest of zeros, to which no path has come.
func TestHoldsNothingWithAnError(t *testing.T) {
	var zero api.Sum
	some := others(30)
	for _, n := range append([]int{0, 1, 2, 3, 5, 1 << 20}, far[:]...) {
		for _, i := range append([]int{-1, 0, n - 1, n}, far[:]...) {
			for l := range some {
				_, err := Come(zero, i, n, some[:l])
				if err != nil && Holds(zero, i, n, some[:l], zero) {
					t.Errorf("leaf %d of %d, %d digests", i, n, l)
				}
			}
		}
	}
	if !Holds(zero, 0, 1, nil, zero) {
		t.Error("a row of zeros")
	}
}

func TestHoldsAnotherOne(t *testing.T) {
	for _, n := range edges {
		if n == 0 {
			continue
		}
		leaves := row(n)
		root := plainRoot(leaves)
		for i := range n {
			p := path(t, leaves, i)
			if !Holds(leaves[i], i, n, p, root) {
				t.Errorf("leaf %d of %d", i, n)
			}
			for bit := range 256 {
				if Holds(turned(leaves[i], bit), i, n, p, root) || Holds(leaves[i], i, n, p, turned(root, bit)) {
					t.Errorf("leaf %d of %d: a leaf or a root with bit %d turned", i, n, bit)
				}
			}
			for k, d := range p {
				for bit := range 256 {
					if Holds(leaves[i], i, n, with(p, k, turned(d, bit)), root) {
						t.Errorf("leaf %d of %d: bit %d of digest %d turned", i, n, bit, k)
					}
				}
			}
		}
	}
}

func TestHoldsAtAnotherPlace(t *testing.T) {
	for n := 1; n <= 33; n++ {
		leaves := row(n)
		root := plainRoot(leaves)
		for i := range n {
			p := path(t, leaves, i)
			for j := -2; j < n+2; j++ {
				if Holds(leaves[i], j, n, p, root) != (i == j) {
					t.Errorf("leaf %d of %d, as %d", i, n, j)
				}
			}
			for _, j := range far {
				if Holds(leaves[i], j, n, p, root) || Holds(leaves[i], i, j, p, root) {
					t.Errorf("leaf %d of %d, at %d, or of so many", i, n, j)
				}
			}
		}
	}
}

// TestHoldsInARowOfAnotherLength: another n tells the same sides at times, and then the path holds, as the chapter reckons it.
func TestHoldsInARowOfAnotherLength(t *testing.T) {
	held := 0
	for n := 1; n <= 17; n++ {
		leaves := row(n)
		root := plainRoot(leaves)
		for i := range n {
			p := path(t, leaves, i)
			for m := -1; m <= 40; m++ {
				want := false
				if m >= 1 && i < m {
					came, ok := plainCome(leaves[i], i, m, p)
					want = ok && came == root
				}
				if got := Holds(leaves[i], i, m, p, root); got != want {
					t.Errorf("leaf %d of %d, as of %d: %v", i, n, m, got)
				}
				if want && m != n {
					held++
				}
			}
		}
	}
	if held == 0 || !Holds(row(5)[0], 0, 6, path(t, row(5), 0), plainRoot(row(5))) || Holds(row(5)[4], 4, 6, path(t, row(5), 4), plainRoot(row(5))) {
		t.Error(held)
	}
}

func TestHoldsAPathOfAnotherLength(t *testing.T) {
	for n := 1; n <= 33; n++ {
		leaves := row(n)
		root := plainRoot(leaves)
		for i := range n {
			p := path(t, leaves, i)
			more := append(slices.Clone(p), root)
			for l := range p {
				if Holds(leaves[i], i, n, p[:l], root) || Holds(leaves[i], i, n, p[l+1:], root) {
					t.Errorf("leaf %d of %d: %d of its digests", i, n, l)
				}
				// What the path's beginning comes to isn't a leaf of a shorter path.
				if came, ok := plainCome(leaves[i], i&(1<<l-1), 1<<l, p[:l]); ok && l > 0 && Holds(came, i, n, p[l:], root) {
					t.Errorf("leaf %d of %d: the digest of a part", i, n)
				}
			}
			if Holds(leaves[i], i, n, more, root) || Holds(leaves[i], i, n, more, pair(root, root)) || Holds(leaves[i], i, n, append([]api.Sum{leaves[i]}, p...), root) {
				t.Errorf("leaf %d of %d: one digest more", i, n)
			}
		}
	}
}

func TestHoldsAPathInAnotherOrder(t *testing.T) {
	leaves := row(33)
	root := plainRoot(leaves)
	for i := range 32 {
		p := path(t, leaves, i)
		for b := range p {
			for a := range b {
				p[a], p[b] = p[b], p[a]
				if Holds(leaves[i], i, 33, p, root) {
					t.Errorf("leaf %d: digests %d and %d changed about", i, a, b)
				}
				p[a], p[b] = p[b], p[a]
			}
		}
	}
}

// TestPathHolds is P10.2 of paths: at every leaf of rows with unlike leaves, and with the same.
func TestPathHolds(t *testing.T) {
	for n := 1; n <= 33; n++ {
		first := leaf.Leaf(nil)
		mixed := row(n)
		for i := range mixed {
			if i%3 == 1 {
				mixed[i] = leaf.Node(first, first)
			}
		}
		for _, leaves := range [][]api.Sum{row(n), make([]api.Sum, n), slices.Repeat([]api.Sum{first}, n), mixed} {
			root := leaf.Root(leaves)
			for i := range n {
				p := path(t, leaves, i)
				if came, err := Come(leaves[i], i, n, p); err != nil || came != root || !Holds(leaves[i], i, n, p, root) {
					t.Errorf("leaf %d of %d: %x, %v", i, n, came, err)
				}
			}
		}
	}
}

func TestPathHoldsInLongRows(t *testing.T) {
	for _, n := range []int{64, 65, 127, 1000, 1024, 1025} {
		leaves := row(n)
		root := leaf.Root(leaves)
		for i := 0; i < n; i += 1 + n/9 {
			if !Holds(leaves[i], i, n, path(t, leaves, i), root) {
				t.Errorf("leaf %d of %d", i, n)
			}
		}
	}
}

// P10.3 can't be broken by a text with another one's digest: none is known. What would break it without one is a path
// that holds with a digest of the row or of its parts in a leaf's stead.

// TestNoOtherLeafHolds has every path out of the row's own digests, with every one of them as the leaf.
func TestNoOtherLeafHolds(t *testing.T) {
	for n := 1; n <= 5; n++ {
		leaves := row(n)
		root := plainRoot(leaves)
		pool := append(nodes(leaves), api.Sum{}, leaf.Empty())
		for i := range n {
			want := path(t, leaves, i)
			held := 0
			for _, p := range everyList(pool, len(want)) {
				for _, d := range pool {
					if !Holds(d, i, n, p, root) {
						continue
					}
					held++
					if d != leaves[i] || !slices.Equal(p, want) {
						t.Errorf("leaf %d of %d: %x holds by %x", i, n, d, p)
					}
				}
			}
			if held != 1 {
				t.Errorf("leaf %d of %d: %d hold", i, n, held)
			}
		}
	}
}

// TestNoOtherLeafHoldsByAPathOfTheRow has each digest of longer rows, by the path of each leaf.
func TestNoOtherLeafHoldsByAPathOfTheRow(t *testing.T) {
	for _, n := range []int{6, 7, 8, 9, 13, 16, 17} {
		leaves := row(n)
		root := plainRoot(leaves)
		all := nodes(leaves)
		for i := range n {
			for j := range n {
				p := path(t, leaves, j)
				for _, d := range all {
					if Holds(d, i, n, p, root) != (d == leaves[i] && i == j) {
						t.Errorf("leaf %d of %d: %x by the path of %d", i, n, d, j)
					}
				}
			}
		}
	}
}

// TestAnotherRowsLeafHoldsNot: a path of a row with one leaf changed holds by that row's digest alone.
func TestAnotherRowsLeafHoldsNot(t *testing.T) {
	for n := 1; n <= 17; n++ {
		leaves := row(n)
		root := plainRoot(leaves)
		for j := range n {
			other := with(leaves, j, others(1)[0])
			for i := range n {
				p := path(t, other, i)
				if Holds(other[i], i, n, p, root) || !Holds(other[i], i, n, p, plainRoot(other)) {
					t.Errorf("leaf %d of %d, %d another one", i, n, j)
				}
				if Holds(leaves[i], i, n, p, root) != (i == j) {
					t.Errorf("leaf %d of %d, by the path of a row with %d another one", i, n, j)
				}
			}
		}
	}
}

func TestPlacesFarAway(t *testing.T) {
	if _, err := Path(row(9), math.MinInt); err != api.ErrRange {
		t.Error(err)
	}
	if _, err := Path(row(9), math.MaxInt); err != api.ErrRange {
		t.Error(err)
	}
	if got, err := Come(api.Sum{1}, math.MaxInt-1, math.MaxInt, nil); err != api.ErrRange || got != (api.Sum{}) {
		t.Error(got, err)
	}
	if got, err := Come(api.Sum{1}, math.MinInt, math.MinInt, nil); err != api.ErrRange || got != (api.Sum{}) {
		t.Error(got, err)
	}
}
