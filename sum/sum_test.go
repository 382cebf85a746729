package sum

import (
	"bytes"
	"crypto/sha256"
	"crypto/sha512"
	"encoding/hex"
	"math/big"
	"slices"
	"strings"
	"sync"
	"testing"

	"cachet/api"
)

// sample is a text of n bytes in which no two pieces are alike.
func sample(n int) []byte {
	text := make([]byte, n)
	x := uint64(n) + 1
	for i := range text {
		x = x*6364136223846793005 + 1442695040888963407
		text[i] = byte(x >> 56)
	}
	return text
}

// holds asks whether parts have the digests of the whole text.
func holds(t *testing.T, text []byte, parts ...[]byte) {
	t.Helper()
	if got, want := Short(parts...), api.Sum(sha256.Sum256(text)); got != want {
		t.Fatalf("short of %d bytes in %d parts: %x, want %x", len(text), len(parts), got, want)
	}
	if got, want := Long(parts...), api.Wide(sha512.Sum512(text)); got != want {
		t.Fatalf("long of %d bytes in %d parts: %x, want %x", len(text), len(parts), got, want)
	}
}

// edges is lengths around those at which the padding just fills a piece of size
// bytes, at which it needs one more, and at which the text itself fills pieces.
func edges(size int) []int {
	var out []int
	for pieces := range 4 {
		for near := -2; near <= 2; near++ {
			full := pieces*size + near
			last := pieces*size + size - 1 - size/8 + near
			out = append(out, max(full, 0), last)
		}
	}
	return out
}

func allEdges() []int {
	out := append(edges(64), edges(128)...)
	slices.Sort(out)
	return slices.Compact(out)
}

// P1.1

func TestExamples(t *testing.T) {
	short, long := Short(), Long()
	if got := hex.EncodeToString(short[:4]); got != "e3b0c442" {
		t.Errorf("short of nothing begins %s", got)
	}
	if got := hex.EncodeToString(long[:4]); got != "cf83e135" {
		t.Errorf("long of nothing begins %s", got)
	}
}

// TestKnown holds both against digests that are written out, so that not all
// tests lean on the library's.
func TestKnown(t *testing.T) {
	for _, c := range []struct{ text, short, long string }{
		{
			"",
			"e3b0c44298fc1c149afbf4c8996fb92427ae41e4649b934ca495991b7852b855",
			"cf83e1357eefb8bdf1542850d66d8007d620e4050b5715dc83f4a921d36ce9ce" +
				"47d0d13c5d85f2b0ff8318d2877eec2f63b931bd47417a81a538327af927da3e",
		},
		{
			"abc",
			"ba7816bf8f01cfea414140de5dae2223b00361a396177a9cb410ff61f20015ad",
			"ddaf35a193617abacc417349ae20413112e6fa4e89a97ea20a9eeee64b55d39a" +
				"2192992a274fc1a836ba3c23a3feebbd454d4423643ce80e2a9ac94fa54ca49f",
		},
		{
			"abcdbcdecdefdefgefghfghighijhijkijkljklmklmnlmnomnopnopq",
			"248d6a61d20638b8e5c026930c3e6039a33ce45964ff2167f6ecedd419db06c1",
			"204a8fc6dda82f0a0ced7beb8e08a41657c16ef468b228a8279be331a703c335" +
				"96fd15c13b1b07f9aa1d3bea57789ca031ad85c7a71dd70354ec631238ca3445",
		},
		{
			strings.Repeat("a", 1000000),
			"cdc76e5c9914fb9281a1c7e284d73e67f1809a48a497200e046d39ccc7112cd0",
			"e718483d0ce769644e2e42c7bc15b4638e1f98b13b2044285632a803afa973eb" +
				"de0ff244877ea60a4cb0432ce577c31beb009c5c2c49aa2e4eadb217ad8cc09b",
		},
	} {
		short, long := Short([]byte(c.text)), Long([]byte(c.text))
		if got := hex.EncodeToString(short[:]); got != c.short {
			t.Errorf("short of %d bytes: %s, want %s", len(c.text), got, c.short)
		}
		if got := hex.EncodeToString(long[:]); got != c.long {
			t.Errorf("long of %d bytes: %s, want %s", len(c.text), got, c.long)
		}
	}
}

func TestEveryLength(t *testing.T) {
	for n := range 1100 {
		text := sample(n)
		holds(t, text, text)
	}
}

func TestEdges(t *testing.T) {
	for _, want := range []int{0, 55, 56, 63, 64, 65, 111, 112, 119, 120, 127, 128, 129, 239, 240, 256} {
		if !slices.Contains(allEdges(), want) {
			t.Fatalf("%d is no edge", want)
		}
	}
	for _, n := range allEdges() {
		for _, fill := range []byte{0x00, 0x80, 0xff} {
			text := bytes.Repeat([]byte{fill}, n)
			holds(t, text, text)
		}
	}
}

func TestEveryByte(t *testing.T) {
	for b := range 256 {
		text := []byte{byte(b)}
		holds(t, text, text)
	}
}

func TestEachBitMatters(t *testing.T) {
	text := sample(300)
	short, long := Short(text), Long(text)
	for i := range 8 * len(text) {
		text[i/8] ^= 1 << (i % 8)
		if Short(text) == short || Long(text) == long {
			t.Fatalf("bit %d doesn't matter", i)
		}
		text[i/8] ^= 1 << (i % 8)
	}
}

func TestLarge(t *testing.T) {
	text := sample(3<<20 + 17)
	holds(t, text, text)
}

// TestManyBits has a text whose count of bits doesn't fit into 32 bits.
func TestManyBits(t *testing.T) {
	if testing.Short() {
		t.Skip("half a GiB takes seconds")
	}
	t.Parallel()
	part := sample(1 << 20)
	parts := slices.Repeat([][]byte{part}, 1<<9)
	parts = append(parts, []byte("end"))
	short, long := sha256.New(), sha512.New()
	for _, p := range parts {
		short.Write(p)
		long.Write(p)
	}
	var wait sync.WaitGroup
	wait.Go(func() {
		if got := Short(parts...); !bytes.Equal(got[:], short.Sum(nil)) {
			t.Errorf("short: %x", got)
		}
	})
	wait.Go(func() {
		if got := Long(parts...); !bytes.Equal(got[:], long.Sum(nil)) {
			t.Errorf("long: %x", got)
		}
	})
	wait.Wait()
}

// TestCount asks for the whole count of bits, which no text that a test can hand
// in fills: of 2^61 bytes on it has more than 64 bits.
func TestCount(t *testing.T) {
	for _, c := range []struct {
		length uint64
		count  string
	}{
		{0, "00000000000000000000000000000000"},
		{1, "00000000000000000000000000000008"},
		{1<<31 - 1, "000000000000000000000003fffffff8"},
		{1<<61 - 1, "0000000000000000fffffffffffffff8"},
		{1 << 61, "00000000000000010000000000000000"},
		{1<<64 - 1, "0000000000000007fffffffffffffff8"},
	} {
		short, long := begin[uint32](shortPlan()), begin[uint64](longPlan())
		short.length, long.length = c.length, c.length
		short.pad()
		long.pad()
		if got := hex.EncodeToString(short.piece[56:64]); got != c.count[16:] {
			t.Errorf("short, %d bytes: %s", c.length, got)
		}
		if got := hex.EncodeToString(long.piece[112:]); got != c.count {
			t.Errorf("long, %d bytes: %s", c.length, got)
		}
	}
}

// primes is the first n primes.
func primes(n int) []int64 {
	var out []int64
	for k := int64(2); len(out) < n; k++ {
		if !slices.ContainsFunc(out, func(p int64) bool { return k%p == 0 }) {
			out = append(out, k)
		}
	}
	return out
}

// isFraction tells whether f is the leading 64 bits of the fraction of the root
// of p: with the whole number that stands ahead of it, it is the greatest one
// whose power is at most that of the root.
func isFraction(p int64, power int64, f uint64) bool {
	one := big.NewInt(1)
	exponent := big.NewInt(power)
	bound := new(big.Int).Lsh(big.NewInt(p), uint(64*power))
	for whole := range p + 1 {
		x := new(big.Int).Lsh(big.NewInt(whole), 64)
		x.Or(x, new(big.Int).SetUint64(f))
		next := new(big.Int).Add(x, one)
		if new(big.Int).Exp(x, exponent, nil).Cmp(bound) <= 0 && new(big.Int).Exp(next, exponent, nil).Cmp(bound) > 0 {
			return true
		}
	}
	return false
}

func TestTables(t *testing.T) {
	all := primes(len(cubes))
	for i, f := range cubes {
		if !isFraction(all[i], 3, f) {
			t.Errorf("cube root of %d: %x", all[i], f)
		}
	}
	for i, f := range squares {
		if !isFraction(all[i], 2, f) {
			t.Errorf("square root of %d: %x", all[i], f)
		}
	}
}

// P1.2

func TestNoText(t *testing.T) {
	holds(t, nil)
	holds(t, nil, nil)
	holds(t, nil, []byte{})
	holds(t, nil, nil, []byte{}, nil)
	holds(t, nil, [][]byte{}...)
	holds(t, nil, make([][]byte, 1000)...)
}

func TestTwoParts(t *testing.T) {
	for _, n := range allEdges() {
		text := sample(n)
		for cut := range n + 1 {
			holds(t, text, text[:cut], text[cut:])
		}
	}
}

func TestThreeParts(t *testing.T) {
	for _, n := range []int{55, 56, 64, 111, 112, 128, 130} {
		text := sample(n)
		for to := range n + 1 {
			for from := range to + 1 {
				holds(t, text, text[:from], text[from:to], text[to:])
			}
		}
	}
}

func TestEvenParts(t *testing.T) {
	text := sample(1000)
	for _, size := range []int{1, 2, 3, 7, 63, 64, 65, 127, 128, 129, 192, 256, 999} {
		holds(t, text, slices.Collect(slices.Chunk(text, size))...)
	}
}

func TestEmptyPartsBetween(t *testing.T) {
	for _, n := range allEdges() {
		text := sample(n)
		parts := [][]byte{nil, {}}
		for chunk := range slices.Chunk(text, 32) {
			parts = append(parts, chunk, nil, []byte{}, nil)
		}
		holds(t, text, parts...)
	}
}

func TestOnePartManyTimes(t *testing.T) {
	part := sample(37)
	for n := range 20 {
		holds(t, bytes.Repeat(part, n), slices.Repeat([][]byte{part}, n)...)
	}
}

func TestPartsInOrder(t *testing.T) {
	a, b := []byte("ahead"), []byte("behind")
	if Short(a, b) == Short(b, a) || Long(a, b) == Long(b, a) {
		t.Error("the order of parts doesn't matter")
	}
}

// P1.3

// TestHandedInStays hands in parts that don't stand side by side, each with all
// that is behind it as its spare room: whoever put them together in place, or
// padded them there, would be seen.
func TestHandedInStays(t *testing.T) {
	for _, n := range allEdges() {
		row := sample(2*n + 300)
		kept := bytes.Clone(row)
		half := n / 2
		parts := [][]byte{row[half:n], row[n+40 : n+40+half], row[7:7]}
		text := slices.Concat(parts...)
		for len(parts) > 0 {
			holds(t, text, parts...)
			if !bytes.Equal(row, kept) {
				t.Fatalf("of %d bytes in %d parts, some changed", n, len(parts))
			}
			text = text[len(parts[0]):]
			parts = parts[1:]
		}
	}
}

func TestListOfPartsStays(t *testing.T) {
	row := sample(400)
	kept := bytes.Clone(row)
	list := [][]byte{row[:100], nil, {}, row[100:170], row[170:300], row[300:]}
	parts := list[:4]
	holds(t, kept[:170], parts...)
	holds(t, kept[:170], parts...)
	want := []int{100, 0, 0, 70, 130, 100}
	for i, part := range list {
		if len(part) != want[i] || (part == nil) != (i == 1) {
			t.Errorf("part %d has %d bytes, nil: %t", i, len(part), part == nil)
		}
	}
	for i, first := range map[int]int{0: 0, 3: 100, 4: 170, 5: 300} {
		if &list[i][0] != &row[first] {
			t.Errorf("part %d is another one", i)
		}
	}
	if !bytes.Equal(row, kept) {
		t.Error("some bytes changed")
	}
}

func TestNothingIsKept(t *testing.T) {
	text := sample(200)
	kept := bytes.Clone(text)
	short, long := Short(text), Long(text)
	clear(text)
	holds(t, text, text)
	if short != sha256.Sum256(kept) || long != sha512.Sum512(kept) {
		t.Error("an answer changed with what was handed in")
	}
	holds(t, kept, kept)
}

func TestAtTheSameTime(t *testing.T) {
	text := sample(5000)
	var wait sync.WaitGroup
	for n := range 64 {
		wait.Go(func() {
			part := text[:64*n+n]
			if Short(part) != sha256.Sum256(part) || Long(part) != sha512.Sum512(part) {
				t.Errorf("%d bytes: another answer", len(part))
			}
		})
	}
	wait.Wait()
}
