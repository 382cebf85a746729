package crc

import (
	"bytes"
	"hash/crc32"
	"slices"
	"strings"
	"sync"
	"testing"
)

// sample is a text of n bytes in which no two rows of bytes are alike.
func sample(n int) []byte {
	text := make([]byte, n)
	x := uint64(n) + 1
	for i := range text {
		x = x*6364136223846793005 + 1442695040888963407
		text[i] = byte(x >> 56)
	}
	return text
}

// byBits is the chapter's own way: what stands in the register behind b, if reg
// stood there ahead of it.
func byBits(reg uint32, b []byte) uint32 {
	for _, c := range b {
		for i := range 8 {
			reg ^= uint32(c) >> i & 1
			if reg&1 == 1 {
				reg = reg>>1 ^ 0xedb88320
			} else {
				reg >>= 1
			}
		}
	}
	return reg
}

func want(text []byte) uint32 { return ^byBits(0xffffffff, text) }

// holds asks whether parts have the sum of the whole text, by both calls.
func holds(t *testing.T, text []byte, parts ...[]byte) {
	t.Helper()
	sum := want(text)
	if got := Of(parts...); got != sum {
		t.Fatalf("%d bytes in %d parts: %08x, want %08x", len(text), len(parts), got, sum)
	}
	more := Of()
	for _, part := range parts {
		more = More(more, part)
	}
	if more != sum {
		t.Fatalf("%d bytes in %d parts, one more by one: %08x, want %08x", len(text), len(parts), more, sum)
	}
}

// P2.1

func TestExample(t *testing.T) {
	if got := Of([]byte("123456789")); got != 0xcbf43926 {
		t.Errorf("%08x", got)
	}
}

// TestKnown holds sums against ones that are written out, so that not all tests
// lean on what is reckoned here.
func TestKnown(t *testing.T) {
	for _, c := range []struct {
		text string
		sum  uint32
	}{
		{"", 0},
		{"a", 0xe8b7be43},
		{"abc", 0x352441c2},
		{"message digest", 0x20159d7f},
		{"abcdefghijklmnopqrstuvwxyz", 0x4c2750bd},
		{"The quick brown fox jumps over the lazy dog", 0x414fa339},
		{strings.Repeat("\x00", 32), 0x190a55ad},
		{strings.Repeat("\xff", 32), 0xff6cab0b},
		{"\xff\xff\xff\xff", 0xffffffff},
	} {
		if got := Of([]byte(c.text)); got != c.sum {
			t.Errorf("%q: %08x, want %08x", c.text, got, c.sum)
		}
		if got := More(0, []byte(c.text)); got != c.sum {
			t.Errorf("%q behind nothing: %08x, want %08x", c.text, got, c.sum)
		}
	}
}

func TestEveryLength(t *testing.T) {
	for n := range 600 {
		text := sample(n)
		holds(t, text, text)
		if got := Of(text); got != crc32.ChecksumIEEE(text) {
			t.Fatalf("%d bytes: %08x", n, got)
		}
	}
}

func TestEveryByte(t *testing.T) {
	for a := range 256 {
		text := []byte{byte(a)}
		holds(t, text, text)
		for b := range 256 {
			text := []byte{byte(a), byte(b)}
			holds(t, text, text)
		}
	}
}

func TestLarge(t *testing.T) {
	text := sample(3<<20 + 17)
	holds(t, text, text)
}

// sums are some of which each bit is set in one, and not in another one.
func sums() []uint32 {
	out := []uint32{0, 1, 0x7fffffff, 0x80000000, 0xedb88320, ^uint32(0xedb88320), 0xfffffffe, 0xffffffff}
	for i := range 32 {
		out = append(out, 1<<i, ^uint32(1<<i))
	}
	for c := range slices.Chunk(sample(400), 4) {
		out = append(out, uint32(c[0])<<24|uint32(c[1])<<16|uint32(c[2])<<8|uint32(c[3]))
	}
	return out
}

// TestMoreOfAnySum: each number is the sum of some text, of which More needs to
// know no more.
func TestMoreOfAnySum(t *testing.T) {
	text := sample(40)
	for _, sum := range sums() {
		for n := range len(text) {
			if got, want := More(sum, text[:n]), ^byBits(^sum, text[:n]); got != want {
				t.Fatalf("%d bytes behind %08x: %08x, want %08x", n, sum, got, want)
			}
		}
		for b := range 256 {
			one := []byte{byte(b)}
			if got, want := More(sum, one), ^byBits(^sum, one); got != want {
				t.Fatalf("%02x behind %08x: %08x, want %08x", b, sum, got, want)
			}
		}
	}
}

func TestMoreOfNothing(t *testing.T) {
	for _, sum := range sums() {
		if More(sum, nil) != sum || More(sum, []byte{}) != sum {
			t.Errorf("nothing behind %08x", sum)
		}
	}
}

func TestMoreBehindEmpty(t *testing.T) {
	for n := range 50 {
		text := sample(n)
		for _, empty := range []uint32{0, Of(), Of(nil), Of([]byte{})} {
			if got := More(empty, text); got != want(text) {
				t.Fatalf("%d bytes: %08x", n, got)
			}
		}
	}
}

func TestBytes(t *testing.T) {
	for _, c := range []struct {
		sum uint32
		row string
	}{
		{0, "\x00\x00\x00\x00"},
		{1, "\x01\x00\x00\x00"},
		{0x01020304, "\x04\x03\x02\x01"},
		{0x80000000, "\x00\x00\x00\x80"},
		{0xcbf43926, "\x26\x39\xf4\xcb"},
		{0xffffffff, "\xff\xff\xff\xff"},
	} {
		if got := Bytes(c.sum); string(got) != c.row {
			t.Errorf("%08x: % x", c.sum, got)
		}
		if got, ok := Take([]byte(c.row)); got != c.sum || !ok {
			t.Errorf("% x: %08x, %t", c.row, got, ok)
		}
	}
}

func TestBytesAndBack(t *testing.T) {
	for _, sum := range sums() {
		row := Bytes(sum)
		if len(row) != 4 {
			t.Fatalf("%08x has %d bytes", sum, len(row))
		}
		for i, b := range row {
			if uint32(b) != sum>>(8*i)&0xff {
				t.Errorf("byte %d of %08x: %02x", i, sum, b)
			}
		}
		if got, ok := Take(row); got != sum || !ok {
			t.Errorf("%08x: %08x, %t", sum, got, ok)
		}
	}
}

func TestTakeOfOtherLengths(t *testing.T) {
	full := bytes.Repeat([]byte{0xff}, 300)
	rows := [][]byte{nil, {}}
	for n := range len(full) {
		if n != 4 {
			// Four bytes are there in the spare room of the shorter ones.
			rows = append(rows, full[:n], bytes.Clone(full[:n]))
		}
	}
	for _, row := range rows {
		if got, ok := Take(row); got != 0 || ok {
			t.Errorf("%d bytes: %08x, %t", len(row), got, ok)
		}
	}
}

func TestTakeWithSpareRoom(t *testing.T) {
	row := []byte{1, 2, 3, 4, 5, 6, 7, 8}
	if got, ok := Take(row[2:6]); got != 0x06050403 || !ok {
		t.Errorf("%08x, %t", got, ok)
	}
}

// P2.2

func TestNoText(t *testing.T) {
	holds(t, nil)
	holds(t, nil, nil)
	holds(t, nil, []byte{})
	holds(t, nil, nil, []byte{}, nil)
	holds(t, nil, [][]byte{}...)
	holds(t, nil, make([][]byte, 1000)...)
}

func TestTwoParts(t *testing.T) {
	for n := range 80 {
		text := sample(n)
		for cut := range n + 1 {
			holds(t, text, text[:cut], text[cut:])
			if got := More(Of(text[:cut]), text[cut:]); got != want(text) {
				t.Fatalf("%d of %d bytes, and more: %08x", cut, n, got)
			}
		}
	}
}

func TestThreeParts(t *testing.T) {
	for _, n := range []int{0, 1, 3, 4, 5, 8, 33} {
		text := sample(n)
		for to := range n + 1 {
			for from := range to + 1 {
				holds(t, text, text[:from], text[from:to], text[to:])
			}
		}
	}
}

func TestEvenParts(t *testing.T) {
	text := sample(1000)
	for _, size := range []int{1, 2, 3, 4, 5, 7, 8, 16, 255, 256, 999} {
		holds(t, text, slices.Collect(slices.Chunk(text, size))...)
	}
}

func TestEmptyPartsBetween(t *testing.T) {
	for n := range 40 {
		text := sample(n)
		parts := [][]byte{nil, {}}
		for chunk := range slices.Chunk(text, 3) {
			parts = append(parts, chunk, nil, []byte{}, nil)
		}
		holds(t, text, parts...)
	}
}

func TestOnePartManyTimes(t *testing.T) {
	part := sample(37)
	for n := range 20 {
		holds(t, bytes.Repeat(part, n), slices.Repeat([][]byte{part}, n)...)
	}
}

func TestPartsInOrder(t *testing.T) {
	a, b := []byte("ahead"), []byte("behind")
	if Of(a, b) == Of(b, a) || More(Of(a), b) == More(Of(b), a) {
		t.Error("the order of parts doesn't matter")
	}
}

// turn changes the bits of mask in the bytes from at on, as many as there are.
func turn(text []byte, at int, mask uint32) {
	for i := range 4 {
		if at+i < len(text) {
			text[at+i] ^= byte(mask >> (8 * i))
		}
	}
}

// masks are changes of one bit, of two, of rows of bits side by side, of all but
// one, and of any.
func masks() []uint32 {
	var out []uint32
	for i := range 32 {
		for j := range 32 {
			out = append(out, 1<<i|1<<j)
			out = append(out, (0xffffffff>>i)&(0xffffffff<<j))
		}
		out = append(out, ^uint32(1<<i))
	}
	out = append(out, sums()...)
	return slices.DeleteFunc(out, func(m uint32) bool { return m == 0 })
}

// TestChangesAreSeen goes through texts of some lengths, with the four bytes at
// every place of the short ones, and at the beginning, in the middle and at the
// end of the long ones.
func TestChangesAreSeen(t *testing.T) {
	places := map[int][]int{}
	for n := 4; n <= 24; n++ {
		for at := range n - 3 {
			places[n] = append(places[n], at)
		}
	}
	places[4000] = []int{0, 1, 2, 3, 1998, 1999, 2000, 2001, 3993, 3994, 3995, 3996}
	for n, all := range places {
		text := sample(n)
		sum := Of(text)
		for _, at := range all {
			for _, mask := range masks() {
				turn(text, at, mask)
				got := Of(text)
				more := More(Of(text[:at+2]), text[at+2:])
				turn(text, at, mask)
				if got == sum || more == sum {
					t.Fatalf("%d bytes, those from %d on changed by %08x: the same sum", n, at, mask)
				}
			}
		}
	}
}

func TestChangesOfShortTexts(t *testing.T) {
	for n := 1; n < 4; n++ {
		text := sample(n)
		sum := Of(text)
		for _, mask := range masks() {
			mask &= 1<<(8*n) - 1
			if mask == 0 {
				continue
			}
			turn(text, 0, mask)
			if Of(text) == sum {
				t.Fatalf("%d bytes, changed by %08x: the same sum", n, mask)
			}
			turn(text, 0, mask)
		}
	}
}

// TestNoTwoChangesMeet tells of all 2^32 changes at a place by 32 of them: what a
// bit changes in the sum is the same whatever else is changed, so that no change
// goes unseen if none of these is put together from others.
func TestNoTwoChangesMeet(t *testing.T) {
	for _, n := range []int{4, 5, 60, 1000} {
		for _, at := range []int{0, (n - 4) / 2, n - 4} {
			text := sample(n)
			sum := Of(text)
			var rows [32]uint32
			for i := range rows {
				turn(text, at, 1<<i)
				rows[i] = Of(text) ^ sum
				turn(text, at, 1<<i)
			}
			for _, mask := range masks() {
				both := uint32(0)
				for i, row := range rows {
					if mask>>i&1 == 1 {
						both ^= row
					}
				}
				turn(text, at, mask)
				if got := Of(text) ^ sum; got != both {
					t.Fatalf("%d bytes, at %d, %08x: %08x, and bit by bit %08x", n, at, mask, got, both)
				}
				turn(text, at, mask)
			}
			if got := rank(rows); got != 32 {
				t.Errorf("%d bytes, at %d: only %d of 32 bits tell", n, at, got)
			}
		}
	}
}

// rank is how many rows aren't put together from others by exclusive or.
func rank(rows [32]uint32) int {
	var leading [32]uint32
	count := 0
	for _, row := range rows {
		for i := 31; i >= 0 && row != 0; i-- {
			if row>>i&1 == 0 {
				continue
			}
			if leading[i] == 0 {
				leading[i] = row
				count++
				break
			}
			row ^= leading[i]
		}
	}
	return count
}

// P2.3

// TestHandedInStays hands in parts that don't stand side by side, each with all
// that is behind it as its spare room.
func TestHandedInStays(t *testing.T) {
	for n := range 70 {
		row := sample(2*n + 100)
		kept := bytes.Clone(row)
		half := n / 2
		parts := [][]byte{row[half:n], row[n+40 : n+40+half], row[7:7]}
		text := slices.Concat(parts...)
		for len(parts) > 0 {
			holds(t, text, parts...)
			if !bytes.Equal(row, kept) {
				t.Fatalf("of %d bytes in %d parts, some changed", n, len(parts))
			}
			text = text[len(parts[0]):]
			parts = parts[1:]
		}
	}
}

func TestTakeLeavesBytes(t *testing.T) {
	row := sample(20)
	kept := bytes.Clone(row)
	for n := range 12 {
		Take(row[3 : 3+n])
		if !bytes.Equal(row, kept) {
			t.Fatalf("of %d bytes, some changed", n)
		}
	}
}

func TestListOfPartsStays(t *testing.T) {
	row := sample(400)
	kept := bytes.Clone(row)
	list := [][]byte{row[:100], nil, {}, row[100:170], row[170:300], row[300:]}
	parts := list[:4]
	holds(t, kept[:170], parts...)
	holds(t, kept[:170], parts...)
	lengths := []int{100, 0, 0, 70, 130, 100}
	for i, part := range list {
		if len(part) != lengths[i] || (part == nil) != (i == 1) {
			t.Errorf("part %d has %d bytes, nil: %t", i, len(part), part == nil)
		}
	}
	for i, first := range map[int]int{0: 0, 3: 100, 4: 170, 5: 300} {
		if &list[i][0] != &row[first] {
			t.Errorf("part %d is another one", i)
		}
	}
	if !bytes.Equal(row, kept) {
		t.Error("some bytes changed")
	}
}

// TestBytesAreNew: neither what is done to an answer, nor what is put behind it,
// is seen in another one.
func TestBytesAreNew(t *testing.T) {
	first, second := Bytes(0x01020304), Bytes(0x01020304)
	clear(first)
	_ = append(first, 9, 9, 9, 9)
	if string(second) != "\x04\x03\x02\x01" || string(Bytes(0x01020304)) != "\x04\x03\x02\x01" {
		t.Error("two answers share memory")
	}
}

func TestNothingIsKept(t *testing.T) {
	text := sample(200)
	kept := bytes.Clone(text)
	sum := Of(text)
	clear(text)
	holds(t, text, text)
	holds(t, kept, kept)
	if More(sum, kept) != Of(kept, kept) {
		t.Error("a sum hangs on what was handed in ahead of it")
	}
}

func TestAtTheSameTime(t *testing.T) {
	text := sample(5000)
	var wait sync.WaitGroup
	for n := range 64 {
		wait.Go(func() {
			part := text[:64*n+n]
			if Of(part) != want(part) || More(Of(part[:n]), part[n:]) != want(part) {
				t.Errorf("%d bytes: another answer", len(part))
			}
		})
	}
	wait.Wait()
}
