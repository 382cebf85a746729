package tree

import (
	"math"
	"slices"
	"testing"

	"cachet/api"
	"cachet/leaf"
	"cachet/proof"
)

// P11.1: New, Add, Len.

func TestExample(t *testing.T) {
	leaves := row(3)
	x := grown(t, leaves)
	if got := x.Level(0); !slices.Equal(got, leaves) {
		t.Errorf("level 0: %x", got)
	}
	if got := x.Level(1); !slices.Equal(got, []api.Sum{leaf.Node(leaves[0], leaves[1])}) {
		t.Errorf("level 1: %x", got)
	}
	if got := x.Level(2); len(got) != 0 {
		t.Errorf("level 2: %x", got)
	}
}

func TestNewHasNoLeaves(t *testing.T) {
	x := New()
	if x == nil {
		t.Fatal("no tree")
	}
	same(t, x, nil)
	if got := root(t, x, 0); got != leaf.Empty() {
		t.Errorf("%x", got)
	}
}

func TestEachNewIsItsOwn(t *testing.T) {
	x, y := New(), New()
	for i, d := range row(9) {
		add(t, x, d, i)
	}
	same(t, y, nil)
	for i, d := range others(5) {
		add(t, y, d, i)
	}
	same(t, x, row(9))
	if y.Len() != 5 || root(t, y, 5) != plainRoot(others(5)) {
		t.Error(y.Len())
	}
	if at, ok := y.Find(row(1)[0]); at != 0 || ok {
		t.Error(at, ok)
	}
}

// TestAddAnyDigest has leaves that are parts of the tree, the digest of none, and one of zeros.
func TestAddAnyDigest(t *testing.T) {
	first := row(1)[0]
	two := pair(first, first)
	leaves := []api.Sum{first, first, two, pair(two, two), {}, {}, plainRoot(nil), {0xff}, two}
	x := New()
	for i, d := range leaves {
		add(t, x, d, i)
		if x.Len() != i+1 {
			t.Error(i, x.Len())
		}
	}
	for i, d := range leaves {
		if got, err := x.Leaf(i); got != d || err != nil {
			t.Errorf("%d: %x, %v", i, got, err)
		}
	}
	sameLevels(t, x, leaves)
	for n := range len(leaves) + 1 {
		sameFirst(t, x, leaves[:n])
	}
}

// TestEachLength asks all calls, at all arguments in range and at the edges, of a tree of each length.
func TestEachLength(t *testing.T) {
	for _, n := range edges {
		same(t, grown(t, row(n)), row(n))
	}
}

// TestKnown holds answers against digests that are written out, so that not all tests lean on reckoning.
func TestKnown(t *testing.T) {
	x := New()
	for i, text := range []string{
		"", "\x00", "\x10", "\x20\x21", "\x30\x31", "\x40\x41\x42\x43",
		"\x50\x51\x52\x53\x54\x55\x56\x57", "\x60\x61\x62\x63\x64\x65\x66\x67\x68\x69\x6a\x6b\x6c\x6d\x6e\x6f",
	} {
		add(t, x, leaf.Leaf([]byte(text)), i)
	}
	for n, want := range written(t,
		"e3b0c44298fc1c149afbf4c8996fb92427ae41e4649b934ca495991b7852b855",
		"6e340b9cffb37a989ca544e6bb780a2c78901d3fb33738768511a30617afa01d",
		"fac54203e7cc696cf0dfcb42c92a1d9dbaf70ad9e621f4bd8d98662f00e3c125",
		"aeb6bcfe274b70a14fb067a5e5578264db0fa9b51af5e0ba159158f329e06e77",
		"d37ee418976dd95753c1c73862b9398fa2a2cf9b4ff0fdfe8b30cd95209614b7",
		"4e3bbb1f7b478dcfe71fb631631519a3bca12c9aefca1612bfce4c13a86264d4",
		"76e67dadbcdf1e10e1b74ddc608abd2f98dfb16fbce75277b5232a127f2087ef",
		"ddb89be403809e325750d3d263cd78929c2942b7942a34b77e122c9594a74c8c",
		"5dc9da79a70659a9ad559cb701ded9a2ab9d823aad2f4960cfe370eff4604328",
	) {
		if got := root(t, x, n); got != want {
			t.Errorf("Root %d: %x", n, got)
		}
	}
	if got, want := path(t, x, 0, 8), written(t,
		"96a296d224f285c67bee93c30f8a309157f0daa35dc5b87e410b78630a09cfc7",
		"5f083f0a1a33ca076a95279832580db3e0ef4584bdff1f54c8a360f50de3031e",
		"6b47aaf29ee3c2af9af889bc1fb9254dabd31177f16232dd6aab035ca39bf6e4",
	); !slices.Equal(got, want) {
		t.Errorf("Path 0 of 8: %x", got)
	}
	if got, want := begins(t, x, 6, 8), written(t,
		"0ebc5d3437fbe2db158b9f126a1d118e308181031d0a949f8dededebc558ef6a",
		"ca854ea128ed050b41b35ffc1b87b8eb2bde461e9e3b5596ece6b9d5975a0ae0",
		"d37ee418976dd95753c1c73862b9398fa2a2cf9b4ff0fdfe8b30cd95209614b7",
	); !slices.Equal(got, want) {
		t.Errorf("Begins 6 of 8: %x", got)
	}
	if got, want := x.Level(2), written(t,
		"d37ee418976dd95753c1c73862b9398fa2a2cf9b4ff0fdfe8b30cd95209614b7",
		"6b47aaf29ee3c2af9af889bc1fb9254dabd31177f16232dd6aab035ca39bf6e4",
	); !slices.Equal(got, want) {
		t.Errorf("Level 2: %x", got)
	}
}

// P11.1: Root.

func TestRootIsLayer9s(t *testing.T) {
	leaves := row(300)
	x := grown(t, leaves)
	for n := range len(leaves) + 1 {
		if got := root(t, x, n); got != leaf.Root(leaves[:n]) {
			t.Errorf("%d: %x", n, got)
		}
	}
}

func TestRootOutOfRange(t *testing.T) {
	for _, length := range edges {
		x := grown(t, row(length))
		for _, n := range append([]int{-1, length + 1, length + 2, 2*length + 1, -length - 1}, far[:]...) {
			if got, err := x.Root(n); got != (api.Sum{}) || err != api.ErrRange {
				t.Errorf("%d of %d: %x, %v", n, length, got, err)
			}
		}
		same(t, x, row(length))
	}
}

// P11.1: Path, Begins.

func TestPathAndBeginsAreLayer10s(t *testing.T) {
	for _, length := range edges {
		leaves := row(length)
		x := grown(t, leaves)
		for n := range length + 1 {
			for i := -2; i <= length+2; i++ {
				samePath(t, x, leaves[:n], i)
				sameBegins(t, x, leaves[:n], i)
			}
			for _, i := range far {
				samePath(t, x, leaves[:n], i)
				sameBegins(t, x, leaves[:n], i)
			}
		}
	}
}

// samePath holds a path, or its error, against layer 10's of the first leaves.
func samePath(t *testing.T, x *Tree, first []api.Sum, i int) {
	t.Helper()
	want, wantErr := proof.Path(first, i)
	if got, err := x.Path(i, len(first)); err != wantErr || !slices.Equal(got, want) {
		t.Errorf("%d of %d: %x, %v", i, len(first), got, err)
	}
}

// sameBegins holds a proof, or its error, against layer 10's of the first leaves.
func sameBegins(t *testing.T, x *Tree, first []api.Sum, m int) {
	t.Helper()
	want, wantErr := proof.Begins(first, m)
	if got, err := x.Begins(m, len(first)); err != wantErr || !slices.Equal(got, want) {
		t.Errorf("%d of %d: %x, %v", m, len(first), got, err)
	}
}

func TestPathAndBeginsOfLongRows(t *testing.T) {
	leaves := row(1030)
	x := grown(t, leaves)
	for _, n := range []int{63, 64, 65, 127, 128, 129, 1000, 1023, 1024, 1025, 1030} {
		for _, i := range []int{-1, 0, 1, 2, 3, 31, 32, 33, 62, 63, n / 3, n / 2, n - 2, n - 1, n, n + 1} {
			samePath(t, x, leaves[:n], i)
			sameBegins(t, x, leaves[:n], i)
		}
	}
}

// TestWrittenOut has the paths and proofs of a row of seven, put together by hand.
func TestWrittenOut(t *testing.T) {
	r := row(7)
	two := func(i int) api.Sum { return pair(r[i], r[i+1]) }
	four, three := pair(two(0), two(2)), pair(two(4), r[6])
	x := grown(t, row(9)) // two more stand behind them
	for i, want := range [][]api.Sum{
		{r[1], two(2), three},
		{r[0], two(2), three},
		{r[3], two(0), three},
		{r[2], two(0), three},
		{r[5], r[6], four},
		{r[4], r[6], four},
		{two(4), four},
	} {
		if got := path(t, x, i, 7); !slices.Equal(got, want) {
			t.Errorf("Path %d: %x", i, got)
		}
	}
	for k, want := range [][]api.Sum{
		{r[1], two(2), three},
		{two(2), three},
		{r[2], r[3], two(0), three},
		{three},
		{r[4], r[5], r[6], four},
		{two(4), r[6], four},
		{},
	} {
		if got := begins(t, x, k+1, 7); !slices.Equal(got, want) {
			t.Errorf("Begins %d: %x", k+1, got)
		}
	}
}

// TestPathAndBeginsOutOfRange has n that is none of the tree's, and numbers that would do at another n.
func TestPathAndBeginsOutOfRange(t *testing.T) {
	for _, length := range edges {
		x := grown(t, row(length))
		for _, n := range append([]int{-1, 0, length + 1, length + 2, 2*length + 1}, far[:]...) {
			for _, i := range append([]int{-1, 0, 1, 2, length - 1, length, length + 1, n - 1, n, n + 1}, far[:]...) {
				refused(t, x, i, n)
			}
		}
		for n := range length + 1 {
			for _, i := range append([]int{-1, n, n + 1}, far[:]...) {
				if got, err := x.Path(i, n); len(got) != 0 || err != api.ErrRange {
					t.Errorf("Path %d of %d of %d: %x, %v", i, n, length, got, err)
				}
			}
			for _, m := range append([]int{-1, 0, n + 1}, far[:]...) {
				if got, err := x.Begins(m, n); len(got) != 0 || err != api.ErrRange {
					t.Errorf("Begins %d of %d of %d: %x, %v", m, n, length, got, err)
				}
			}
		}
		same(t, x, row(length))
	}
}

// refused asks a path and a proof of which there is neither.
func refused(t *testing.T, x *Tree, i, n int) {
	t.Helper()
	if got, err := x.Path(i, n); len(got) != 0 || err != api.ErrRange {
		t.Errorf("Path %d of %d of %d: %x, %v", i, n, x.Len(), got, err)
	}
	if got, err := x.Begins(i, n); len(got) != 0 || err != api.ErrRange {
		t.Errorf("Begins %d of %d of %d: %x, %v", i, n, x.Len(), got, err)
	}
}

// TestPathHoldsAndBeginsExtends asks those who check.
func TestPathHoldsAndBeginsExtends(t *testing.T) {
	leaves := row(33)
	x := grown(t, leaves)
	for n := 1; n <= 33; n++ {
		whole := root(t, x, n)
		for i := range n {
			if !proof.Holds(leaves[i], i, n, path(t, x, i, n), whole) {
				t.Errorf("leaf %d of %d", i, n)
			}
			if !proof.Extends(i+1, n, root(t, x, i+1), whole, begins(t, x, i+1, n)) {
				t.Errorf("the first %d of %d", i+1, n)
			}
		}
	}
}

// P11.1: Find.

func TestFindOnce(t *testing.T) {
	x := New()
	for i, d := range row(40) {
		if at, ok := x.Find(d); at != 0 || ok {
			t.Errorf("ahead of being added, %d: %d, %v", i, at, ok)
		}
		add(t, x, d, i)
		if at, ok := x.Find(d); at != i || !ok {
			t.Errorf("%d: %d, %v", i, at, ok)
		}
	}
}

// TestFindTwice has leaves that stand twice and more, side by side and far from one another.
func TestFindTwice(t *testing.T) {
	r := row(4)
	leaves := []api.Sum{r[0], r[1], r[1], r[0], r[2], {}, r[1], r[0], {}, r[2], r[2]}
	for n := range len(leaves) + 1 {
		x := grown(t, leaves[:n])
		for _, d := range append(r, api.Sum{}) {
			at, ok := x.Find(d)
			if want := slices.Index(leaves[:n], d); ok != (want >= 0) || at != max(want, 0) {
				t.Errorf("%x in %d: %d, %v", d[:2], n, at, ok)
			}
		}
	}
}

// TestFindNoPart asks for digests that stand in the tree, but not as leaves, and for ones that are nearly a leaf's.
func TestFindNoPart(t *testing.T) {
	leaves := row(17)
	x := grown(t, leaves)
	asked := []api.Sum{{}, leaf.Empty(), root(t, x, 17), root(t, x, 3)}
	for k := 1; k <= 4; k++ {
		asked = append(asked, x.Level(k)...)
	}
	for _, d := range leaves {
		for _, at := range []int{0, 15, 31} {
			e := d
			e[at] ^= 1
			asked = append(asked, e)
		}
	}
	for _, d := range asked {
		if at, ok := x.Find(d); at != 0 || ok {
			t.Errorf("%x: %d, %v", d, at, ok)
		}
	}
}

// P11.1: Level.

// TestLevelsHaveWholesOnly holds each level against layer 9's digests, as many as there are.
func TestLevelsHaveWholesOnly(t *testing.T) {
	leaves := row(130)
	x := New()
	for n := range len(leaves) + 1 {
		for k := 0; ; k++ {
			var want []api.Sum
			for part := range slices.Chunk(leaves[:n], 1<<k) {
				if len(part) == 1<<k {
					want = append(want, leaf.Root(part))
				}
			}
			if got := x.Level(k); !slices.Equal(got, want) {
				t.Errorf("level %d of %d: %x", k, n, got)
			}
			if len(want) == 0 {
				break
			}
		}
		if n < len(leaves) {
			add(t, x, leaves[n], n)
		}
	}
}

func TestNoSuchLevel(t *testing.T) {
	for _, n := range edges {
		x := grown(t, row(n))
		for _, k := range []int{math.MinInt, -1 << 32, -64, -1, 6, 20, 21, 22, 32, 63, 64, 1 << 32, math.MaxInt} {
			if got := x.Level(k); len(got) != 0 {
				t.Errorf("level %d of %d: %x", k, n, got)
			}
		}
	}
}

// P11.1: a nil Tree.

func TestNil(t *testing.T) {
	var x *Tree
	for range 2 {
		for _, d := range append(row(2), api.Sum{}) {
			if i, err := x.Add(d); i != 0 || err != api.ErrFull {
				t.Error(i, err)
			}
		}
		same(t, x, nil)
		if got := root(t, x, 0); got != leaf.Empty() {
			t.Errorf("%x", got)
		}
		if at, ok := x.Find(api.Sum{}); at != 0 || ok {
			t.Error(at, ok)
		}
		for _, n := range append([]int{0, 1, 2}, far[:]...) {
			for _, i := range append([]int{0, 1, 2}, far[:]...) {
				refused(t, x, i, n)
			}
			if got, err := x.Root(n); n != 0 && (got != (api.Sum{}) || err != api.ErrRange) {
				t.Errorf("%d: %x, %v", n, got, err)
			}
		}
	}
}
