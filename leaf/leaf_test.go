package leaf

import (
	"bytes"
	"crypto/sha256"
	"encoding/hex"
	"math"
	"slices"
	"testing"

	"cachet/api"
)

// next is one number of a row in which there is no order.
func next(x *uint64) uint64 {
	*x = *x*6364136223846793005 + 1442695040888963407
	return *x >> 33
}

// sample is a text of n bytes without order.
func sample(n int) []byte {
	text := make([]byte, n)
	x := uint64(n) + 1
	for i := range text {
		text[i] = byte(next(&x))
	}
	return text
}

// row is n digests, no two of them the same.
func row(n int) []api.Sum {
	out := make([]api.Sum, n)
	for i := range out {
		out[i] = sha256.Sum256([]byte{byte(i), byte(i >> 8), byte(i >> 16)})
	}
	return out
}

// digest is the short digest by the library's own.
func digest(parts ...[]byte) api.Sum { return sha256.Sum256(bytes.Join(parts, nil)) }

// pair is the digest of two, by the library's own.
func pair(left, right api.Sum) api.Sum { return digest([]byte{1}, left[:], right[:]) }

// plain is the digest of a row without any cut: two by two, level by level; one that is left over goes up as it is.
func plain(leaves []api.Sum) api.Sum {
	if len(leaves) == 0 {
		return digest()
	}
	level := slices.Clone(leaves)
	for len(level) > 1 {
		var above []api.Sum
		for two := range slices.Chunk(level, 2) {
			if len(two) == 2 {
				above = append(above, pair(two[0], two[1]))
			} else {
				above = append(above, two[0])
			}
		}
		level = above
	}
	return level[0]
}

func written(t *testing.T, text string) api.Sum {
	t.Helper()
	b, err := hex.DecodeString(text)
	if err != nil || len(b) != 32 {
		t.Fatal(text)
	}
	return api.Sum(b)
}

// unlike asks that no two of these digests are the same.
func unlike(t *testing.T, all []api.Sum) {
	t.Helper()
	first := map[api.Sum]int{}
	for i, d := range all {
		if j, ok := first[d]; ok {
			t.Errorf("%d and %d have one digest, %x", j, i, d)
		}
		first[d] = i
	}
}

// P9.1: Leaf.

func TestExampleLeaf(t *testing.T) {
	got := Leaf(nil)
	if !bytes.Equal(got[:4], []byte{0x6e, 0x34, 0x0b, 0x9c}) {
		t.Errorf("%x", got)
	}
}

// TestLeafKnown holds Leaf against digests that are written out, so that not all tests lean on the library's.
func TestLeafKnown(t *testing.T) {
	for text, want := range map[string]string{
		"":                 "6e340b9cffb37a989ca544e6bb780a2c78901d3fb33738768511a30617afa01d",
		"\x00":             "96a296d224f285c67bee93c30f8a309157f0daa35dc5b87e410b78630a09cfc7",
		"\x01":             "b413f47d13ee2fe6c845b2ee141af81de858df4ec549a58b7970bb96645bc8d2",
		"\x10":             "0298d122906dcfc10892cb53a73992fc5b9f493ea4c9badb27b791b4127a7fe7",
		"\x00\x00":         "709e80c88487a2411e1ee4dfb9f22a861492d20c4765150c0c794abd70f8147c",
		"\x01\x00":         "faee935763044f124d7526755a5058a33f9402a595994d59eddd4be8546ff201",
		"\x40\x41\x42\x43": "4271a26be0d8a84f0bd54c8c302e7cb3a3b5d1fa6780a40bcce2873477dab658",
	} {
		if got := Leaf([]byte(text)); got != written(t, want) {
			t.Errorf("%q: %x", text, got)
		}
	}
}

func TestLeafNilIsEmpty(t *testing.T) {
	if Leaf(nil) != Leaf([]byte{}) {
		t.Errorf("%x, %x", Leaf(nil), Leaf([]byte{}))
	}
}

func TestLeafOfEachLength(t *testing.T) {
	lengths := []int{4095, 4096, 4097, 1 << 16, 1<<20 + 1}
	for n := range 300 {
		lengths = append(lengths, n)
	}
	for _, n := range lengths {
		text := sample(n)
		if got, want := Leaf(text), digest([]byte{0}, text); got != want {
			t.Errorf("%d bytes: %x, want %x", n, got, want)
		}
	}
}

func TestLeafOfEachFirstByte(t *testing.T) {
	var all []api.Sum
	for b := range 256 {
		for _, text := range [][]byte{{byte(b)}, {byte(b), 0}, {byte(b), 1}, append([]byte{byte(b)}, sample(64)...)} {
			got := Leaf(text)
			if want := digest([]byte{0}, text); got != want {
				t.Errorf("%x: %x, want %x", text, got, want)
			}
			all = append(all, got)
		}
	}
	unlike(t, append(all, Leaf(nil), Empty()))
}

// TestLeafIsNoNode hands in leaves that are the same as a node's text, with its first byte and without.
func TestLeafIsNoNode(t *testing.T) {
	some := append(row(4), api.Sum{}, Empty(), Leaf(nil))
	for _, left := range some {
		for _, right := range some {
			text := slices.Concat([]byte{1}, left[:], right[:])
			node := Node(left, right)
			if node != digest(text) {
				t.Errorf("%x %x: %x", left, right, node)
			}
			if Leaf(text) != digest([]byte{0}, text) || Leaf(text[1:]) != digest([]byte{0}, text[1:]) {
				t.Errorf("%x: %x, %x", text, Leaf(text), Leaf(text[1:]))
			}
			unlike(t, []api.Sum{node, Leaf(text), Leaf(text[1:])})
		}
	}
}

func TestLeafIsNotItsTextsDigest(t *testing.T) {
	for n := range 130 {
		text := sample(n)
		unlike(t, []api.Sum{Leaf(text), digest(text), digest([]byte{1}, text)})
	}
}

// P9.1: Node.

func TestNodeKnown(t *testing.T) {
	left, right := Leaf(nil), Leaf([]byte{0})
	if got := Node(left, right); got != written(t, "fac54203e7cc696cf0dfcb42c92a1d9dbaf70ad9e621f4bd8d98662f00e3c125") {
		t.Errorf("%x", got)
	}
}

func TestNode(t *testing.T) {
	some := append(row(12), api.Sum{}, api.Sum(bytes.Repeat([]byte{255}, 32)), Empty(), Leaf(nil))
	var all []api.Sum
	for _, left := range some {
		for _, right := range some {
			got := Node(left, right)
			if want := pair(left, right); got != want {
				t.Errorf("%x %x: %x, want %x", left, right, got, want)
			}
			all = append(all, got)
		}
	}
	// Among them are each with itself, and each two changed about.
	unlike(t, all)
}

func TestNodeOfEachBit(t *testing.T) {
	left, right := row(2)[0], row(2)[1]
	all := []api.Sum{Node(left, right)}
	for bit := range 256 {
		turned := api.Sum{}
		turned[bit/8] = 1 << (bit % 8)
		a, b := left, right
		for i := range turned {
			a[i] ^= turned[i]
			b[i] ^= turned[i]
		}
		all = append(all, Node(a, right), Node(left, b))
	}
	unlike(t, all)
}

// P9.1: Empty.

func TestEmpty(t *testing.T) {
	want := written(t, "e3b0c44298fc1c149afbf4c8996fb92427ae41e4649b934ca495991b7852b855")
	if Empty() != want {
		t.Errorf("%x", Empty())
	}
	if Root(nil) != want || Root([]api.Sum{}) != want || Root(row(3)[:0]) != want {
		t.Errorf("%x, %x, %x", Root(nil), Root([]api.Sum{}), Root(row(3)[:0]))
	}
	unlike(t, []api.Sum{Empty(), Leaf(nil), {}, Node(Empty(), Empty()), Node(api.Sum{}, api.Sum{})})
}

// P9.1: Cut.

func TestExampleCut(t *testing.T) {
	for n, want := range map[int]int{2: 1, 5: 4, 8: 4} {
		if got := Cut(n); got != want {
			t.Error(n, got, want)
		}
	}
}

func TestCutBelowTwo(t *testing.T) {
	for _, n := range []int{math.MinInt, math.MinInt + 1, math.MinInt + 2, -1 << 62, -1 << 32, -1 << 31, -65, -5, -4, -3, -2, -1, 0, 1} {
		if got := Cut(n); got != 0 {
			t.Error(n, got)
		}
	}
	for k := range 63 {
		if Cut(-1<<k) != 0 || Cut(-1<<k-1) != 0 || Cut(-1<<k+1) != 0 {
			t.Error(k, Cut(-1<<k-1), Cut(-1<<k), Cut(-1<<k+1))
		}
	}
}

func TestCutNearPowers(t *testing.T) {
	if Cut(2) != 1 || Cut(3) != 2 {
		t.Error(Cut(2), Cut(3))
	}
	for k := 2; k <= 62; k++ {
		power := 1 << k
		if less, same, more := Cut(power-1), Cut(power), Cut(power+1); less != power/2 || same != power/2 || more != power {
			t.Error(power, less, same, more)
		}
	}
	if Cut(math.MaxInt) != 1<<62 || Cut(math.MaxInt-1) != 1<<62 {
		t.Error(Cut(math.MaxInt-1), Cut(math.MaxInt))
	}
}

// TestCut asks every number up to a bound: the power goes on by itself when the number has passed it twice.
func TestCut(t *testing.T) {
	power := 1
	for n := 2; n < 1<<16; n++ {
		if n > 2*power {
			power *= 2
		}
		if got := Cut(n); got != power {
			t.Fatal(n, got, power)
		}
	}
}

func TestCutOfAny(t *testing.T) {
	x := uint64(9)
	for range 20000 {
		n := int((next(&x)<<32 ^ next(&x)) >> 1 >> (next(&x) % 62))
		k := Cut(n)
		if n < 2 {
			if k != 0 {
				t.Error(n, k)
			}
			continue
		}
		// The rest is from 1 to k, so that k is below n, and twice k is not.
		if k < 1 || k&(k-1) != 0 || n-k < 1 || n-k > k {
			t.Error(n, k)
		}
	}
}

// P9.1: Root.

// TestRootKnown holds Root against digests that are written out.
func TestRootKnown(t *testing.T) {
	leaves := []string{
		"", "\x00", "\x10", "\x20\x21", "\x30\x31", "\x40\x41\x42\x43",
		"\x50\x51\x52\x53\x54\x55\x56\x57", "\x60\x61\x62\x63\x64\x65\x66\x67\x68\x69\x6a\x6b\x6c\x6d\x6e\x6f",
	}
	roots := []string{
		"e3b0c44298fc1c149afbf4c8996fb92427ae41e4649b934ca495991b7852b855",
		"6e340b9cffb37a989ca544e6bb780a2c78901d3fb33738768511a30617afa01d",
		"fac54203e7cc696cf0dfcb42c92a1d9dbaf70ad9e621f4bd8d98662f00e3c125",
		"aeb6bcfe274b70a14fb067a5e5578264db0fa9b51af5e0ba159158f329e06e77",
		"d37ee418976dd95753c1c73862b9398fa2a2cf9b4ff0fdfe8b30cd95209614b7",
		"4e3bbb1f7b478dcfe71fb631631519a3bca12c9aefca1612bfce4c13a86264d4",
		"76e67dadbcdf1e10e1b74ddc608abd2f98dfb16fbce75277b5232a127f2087ef",
		"ddb89be403809e325750d3d263cd78929c2942b7942a34b77e122c9594a74c8c",
		"5dc9da79a70659a9ad559cb701ded9a2ab9d823aad2f4960cfe370eff4604328",
	}
	var all []api.Sum
	for n, want := range roots {
		if got := Root(all); got != written(t, want) {
			t.Errorf("%d leaves: %x", n, got)
		}
		if n < len(leaves) {
			all = append(all, Leaf([]byte(leaves[n])))
		}
	}
}

func TestRoot(t *testing.T) {
	lengths := []int{1000, 1023, 1024, 1025, 1<<16 - 1, 1 << 16, 1<<16 + 1}
	for n := range 300 { // 0, 1, 2, 3, 4, 5, 7, 8, 9, 64 and 65 are among them
		lengths = append(lengths, n)
	}
	for _, n := range lengths {
		leaves := row(n)
		if got, want := Root(leaves), plain(leaves); got != want {
			t.Errorf("%d leaves: %x, want %x", n, got, want)
		}
	}
}

// TestRootWrittenOut holds the shapes of short rows against how they are put together by hand.
func TestRootWrittenOut(t *testing.T) {
	r := row(9)
	two := func(i int) api.Sum { return pair(r[i], r[i+1]) }
	four := func(i int) api.Sum { return pair(two(i), two(i+2)) }
	for n, want := range map[int]api.Sum{
		0: digest(),
		1: r[0],
		2: two(0),
		3: pair(two(0), r[2]),
		4: four(0),
		5: pair(four(0), r[4]),
		6: pair(four(0), two(4)),
		7: pair(four(0), pair(two(4), r[6])),
		8: pair(four(0), four(4)),
		9: pair(pair(four(0), four(4)), r[8]),
	} {
		if got := Root(r[:n]); got != want {
			t.Errorf("%d leaves: %x, want %x", n, got, want)
		}
	}
}

func TestRootIsCut(t *testing.T) {
	leaves := row(130)
	for n := 2; n <= len(leaves); n++ {
		k := Cut(n)
		if got, want := Root(leaves[:n]), Node(Root(leaves[:k]), Root(leaves[k:n])); got != want {
			t.Errorf("%d leaves: %x, want %x", n, got, want)
		}
	}
}

func TestRootOfOneIsItself(t *testing.T) {
	for _, d := range append(row(20), api.Sum{}, Empty(), Leaf(nil), Node(Empty(), Empty())) {
		if got := Root([]api.Sum{d}); got != d {
			t.Errorf("%x: %x", d, got)
		}
	}
}

func TestRootOfTheSameLeaves(t *testing.T) {
	var all []api.Sum
	for n := 1; n < 130; n++ {
		leaves := slices.Repeat([]api.Sum{Leaf(nil)}, n)
		got := Root(leaves)
		if want := plain(leaves); got != want {
			t.Errorf("%d leaves: %x, want %x", n, got, want)
		}
		all = append(all, got)
	}
	// The last one of a row isn't taken twice, nor is a row filled up.
	unlike(t, all)
}

func TestRootOfBeginnings(t *testing.T) {
	leaves := row(300)
	var all []api.Sum
	for n := range leaves {
		all = append(all, Root(leaves[:n]))
	}
	unlike(t, all)
}

// P9.2: rows as long as one another.

// short is lengths of rows around those at which a cut goes on.
var short = [...]int{1, 2, 3, 4, 5, 6, 7, 8, 9, 15, 16, 17, 31, 33, 63, 64, 65}

func TestEachPlaceMatters(t *testing.T) {
	for _, n := range short {
		leaves := row(n)
		all := []api.Sum{Root(leaves)}
		for i := range leaves {
			kept := leaves[i]
			for _, other := range []api.Sum{{}, Empty(), Leaf(nil), Leaf(kept[:]), Node(kept, kept)} {
				leaves[i] = other
				got := Root(leaves)
				if want := plain(leaves); got != want {
					t.Errorf("%d leaves, %d another one: %x, want %x", n, i, got, want)
				}
				all = append(all, got)
			}
			leaves[i] = kept
		}
		unlike(t, all)
	}
}

func TestEachBitMatters(t *testing.T) {
	for _, n := range []int{1, 2, 3, 5, 8, 9} {
		leaves := row(n)
		all := []api.Sum{Root(leaves)}
		for i := range leaves {
			for bit := range 256 {
				leaves[i][bit/8] ^= 1 << (bit % 8)
				all = append(all, Root(leaves))
				leaves[i][bit/8] ^= 1 << (bit % 8)
			}
		}
		unlike(t, all)
	}
}

func TestEachTwoChangedAbout(t *testing.T) {
	for _, n := range short {
		leaves := row(n)
		all := []api.Sum{Root(leaves)}
		for j := range leaves {
			for i := range j {
				leaves[i], leaves[j] = leaves[j], leaves[i]
				all = append(all, Root(leaves))
				leaves[i], leaves[j] = leaves[j], leaves[i]
			}
		}
		unlike(t, all)
	}
}

// TestRowsTurned has the leaves of a row from another place on, and from the last one on.
func TestRowsTurned(t *testing.T) {
	for _, n := range short {
		if n < 3 { // of two leaves there are no more than two orders
			continue
		}
		var all []api.Sum
		for i := range n {
			leaves := row(n)
			turned := slices.Concat(leaves[i:], leaves[:i])
			all = append(all, Root(turned))
			slices.Reverse(turned)
			all = append(all, Root(turned))
		}
		unlike(t, all)
	}
}

// TestEveryOrder has a row's leaves in each order that there is.
func TestEveryOrder(t *testing.T) {
	for n := 2; n <= 6; n++ {
		var all []api.Sum
		leaves := row(n)
		var from func(i int)
		from = func(i int) {
			if i == n {
				all = append(all, Root(leaves))
				return
			}
			for j := i; j < n; j++ {
				leaves[i], leaves[j] = leaves[j], leaves[i]
				from(i + 1)
				leaves[i], leaves[j] = leaves[j], leaves[i]
			}
		}
		from(0)
		unlike(t, all)
	}
}

// TestEveryRow has every row of three digests, the second of which is a node of the first one, by which parts of a row could be taken for leaves.
func TestEveryRow(t *testing.T) {
	first := Leaf(nil)
	of := []api.Sum{first, Node(first, first), Empty()}
	for n := 1; n <= 7; n++ {
		count := 1
		for range n {
			count *= len(of)
		}
		var all []api.Sum
		for c := range count {
			leaves := make([]api.Sum, n)
			for i := range leaves {
				leaves[i] = of[c%len(of)]
				c /= len(of)
			}
			all = append(all, Root(leaves))
		}
		unlike(t, all)
	}
}

// TestRowsOfUnlikeLength tells why the promise is of rows as long as one another: nodes as leaves make a shorter row with the same digest.
func TestRowsOfUnlikeLength(t *testing.T) {
	r := row(4)
	if Root(r) != Root([]api.Sum{Node(r[0], r[1]), Node(r[2], r[3])}) {
		t.Errorf("%x", Root(r))
	}
}

// What is handed in is neither changed nor kept.

// TestLeafTakesNothing has a text in the midst of other bytes, room behind it included.
func TestLeafTakesNothing(t *testing.T) {
	for _, n := range []int{0, 1, 54, 55, 56, 63, 64, 65, 200} {
		all := sample(n + 200)
		kept := slices.Clone(all)
		text := all[100 : 100+n]
		got := Leaf(text)
		if !bytes.Equal(all, kept) {
			t.Errorf("%d bytes: changed", n)
		}
		clear(all)
		if got != digest([]byte{0}, kept[100:100+n]) {
			t.Errorf("%d bytes: the answer hangs on what was handed in", n)
		}
		if Leaf(text) != digest([]byte{0}, make([]byte, n)) {
			t.Errorf("%d bytes: kept", n)
		}
	}
}

// TestRootTakesNothing has a row in the midst of other digests, room behind it included.
func TestRootTakesNothing(t *testing.T) {
	for _, n := range append([]int{0}, short[:]...) {
		all := row(n + 20)
		kept := slices.Clone(all)
		leaves := all[10 : 10+n]
		got := Root(leaves)
		if !slices.Equal(all, kept) {
			t.Errorf("%d leaves: changed", n)
		}
		clear(all)
		if got != plain(kept[10:10+n]) {
			t.Errorf("%d leaves: the answer hangs on what was handed in", n)
		}
		if Root(leaves) != plain(make([]api.Sum, n)) {
			t.Errorf("%d leaves: kept", n)
		}
	}
}

// TestSameAgain asks the same things again, with others between.
func TestSameAgain(t *testing.T) {
	leaves := row(65)
	root, node, leaf := Root(leaves), Node(leaves[0], leaves[1]), Leaf([]byte("one"))
	for n := range 20 {
		Root(row(n))
		Node(leaves[n], leaves[n])
		Leaf(sample(n))
		if Root(leaves) != root || Node(leaves[0], leaves[1]) != node || Leaf([]byte("one")) != leaf || Empty() != digest() {
			t.Error(n)
		}
	}
}
