package frame

import (
	"bytes"
	"encoding/binary"
	"hash/crc32"
	"math"
	"slices"
	"strings"
	"testing"

	"cachet/api"
)

// item is a record as All tells it.
type item struct {
	at      int
	payload string
}

// next is one number of a row in which there is no order.
func next(x *uint64) int {
	*x = *x*6364136223846793005 + 1442695040888963407
	return int(*x >> 33)
}

// sample is a text of n bytes without order.
func sample(n int) []byte {
	text := make([]byte, n)
	x := uint64(n) + 1
	for i := range text {
		text[i] = byte(next(&x))
	}
	return text
}

// told is what eight bytes and what is behind them are, if they tell that length and have the right check sum.
func told(length uint32, behind []byte) []byte {
	row := binary.LittleEndian.AppendUint32(nil, length)
	sum := crc32.ChecksumIEEE(append(slices.Clone(row), behind...))
	return append(binary.LittleEndian.AppendUint32(row, sum), behind...)
}

// plain is the records of a row by the chapter's words, and how far it is whole.
func plain(row []byte) ([]item, int) {
	var out []item
	at := 0
	for len(row)-at >= 8 {
		length := int64(binary.LittleEndian.Uint32(row[at:]))
		if length > 65536 || int64(at)+8+length > int64(len(row)) {
			break
		}
		end := at + 8 + int(length)
		text := append(slices.Clone(row[at:at+4]), row[at+8:end]...)
		if binary.LittleEndian.Uint32(row[at+4:]) != crc32.ChecksumIEEE(text) {
			break
		}
		out = append(out, item{at, string(row[at+8 : end])})
		at = end
	}
	return out, at
}

// through is all that All tells of a row.
func through(row []byte) []item {
	var out []item
	for at, payload := range All(row) {
		out = append(out, item{at, string(payload)})
	}
	return out
}

// holds asks all three calls of a row what they should answer.
func holds(t *testing.T, row []byte, want []item, end int) {
	t.Helper()
	if got := through(row); !slices.Equal(got, want) {
		t.Errorf("%d bytes: %d records, not %d, or other ones", len(row), len(got), len(want))
	}
	if got := Count(row); got != len(want) {
		t.Errorf("%d bytes: Count is %d, not %d", len(row), got, len(want))
	}
	if got := Whole(row); got != end {
		t.Errorf("%d bytes: Whole is %d, not %d", len(row), got, end)
	}
}

// torn asks that a row has no record at all.
func torn(t *testing.T, row []byte) {
	t.Helper()
	holds(t, row, nil, 0)
}

// put is a row of records, made by Put.
func put(t *testing.T, payloads ...string) ([]byte, []item) {
	t.Helper()
	var row []byte
	var items []item
	for _, payload := range payloads {
		record, err := Put([]byte(payload))
		if err != nil {
			t.Fatal(err)
		}
		items = append(items, item{len(row), payload})
		row = append(row, record...)
	}
	return row, items
}

// some are payloads of all sorts: of nothing, short ones, ones that look like records or like none.
func some(t *testing.T) []string {
	t.Helper()
	inner, _ := put(t, "within", "")
	return []string{"one", "", "three", string(inner), "\x00", strings.Repeat("\x00", 8), strings.Repeat("\xff", 9), string(sample(300)), "", "last"}
}

// P7.1: Put and Size.

func TestExample(t *testing.T) {
	record, err := Put(nil)
	if want := []byte{0, 0, 0, 0, 0x1c, 0xdf, 0x44, 0x21}; !bytes.Equal(record, want) || err != nil {
		t.Error(record, err)
	}
}

func TestPutKnown(t *testing.T) {
	for payload, want := range map[string]string{
		"":          "\x00\x00\x00\x00\x1c\xdf\x44\x21",
		"one":       "\x03\x00\x00\x00\x00\x9a\xa9\x29" + "one",
		"123456789": "\x09\x00\x00\x00\xe2\x61\x1c\xa5" + "123456789",
	} {
		if record, err := Put([]byte(payload)); string(record) != want || err != nil {
			t.Errorf("%q: %q %v", payload, record, err)
		}
	}
}

func TestPut(t *testing.T) {
	for _, n := range []int{0, 1, 2, 7, 8, 9, 255, 256, 257, 1000, 1<<16 - 1, 1 << 16} {
		payload := sample(n)
		record, err := Put(payload)
		if want := told(uint32(n), payload); !bytes.Equal(record, want) || err != nil {
			t.Error(n, len(record), err)
		}
		if len(record) != Size(n) {
			t.Error(n, len(record), Size(n))
		}
		holds(t, record, []item{{0, string(payload)}}, n+8)
	}
}

func TestPutNilIsEmpty(t *testing.T) {
	a, err1 := Put(nil)
	b, err2 := Put([]byte{})
	if !bytes.Equal(a, b) || err1 != nil || err2 != nil {
		t.Error(a, b, err1, err2)
	}
}

func TestPutTooLong(t *testing.T) {
	for _, n := range []int{1<<16 + 1, 1<<16 + 8, 1 << 17, 1 << 20} {
		if record, err := Put(make([]byte, n)); len(record) != 0 || err != api.ErrSize {
			t.Error(n, len(record), err)
		}
	}
}

func TestSize(t *testing.T) {
	for n, want := range map[int]int{
		math.MinInt: 0, math.MinInt + 8: 0, -9: 0, -8: 0, -7: 0, -1: 0,
		0: 8, 1: 9, 2: 10, 1<<16 - 1: 1<<16 + 7, 1 << 16: 1<<16 + 8,
		1<<16 + 1: 0, 1 << 17: 0, 1 << 32: 0, 1<<32 + 1: 0, math.MaxInt - 8: 0, math.MaxInt: 0,
	} {
		if got := Size(n); got != want {
			t.Error(n, got, want)
		}
	}
}

// P7.1: rows that are no more than the beginning of a record.

func TestShortRows(t *testing.T) {
	torn(t, nil)
	torn(t, []byte{})
	for n := range 8 {
		torn(t, make([]byte, n))
		torn(t, told(0, nil)[:n])
		torn(t, bytes.Repeat([]byte{255}, n))
	}
}

func TestEightBytes(t *testing.T) {
	holds(t, told(0, nil), []item{{0, ""}}, 8)
	torn(t, make([]byte, 8))
	torn(t, bytes.Repeat([]byte{255}, 8))
	torn(t, told(1, nil))
}

// P7.1: a length that tells more than is there is no record, whatever the check sum.

func TestLengthBeyondTheRow(t *testing.T) {
	for _, length := range []uint32{1, 5, 255, 256, 1 << 16, 1<<16 + 1, 1 << 24, 1<<31 - 1, 1 << 31, 1<<32 - 9, 1<<32 - 8, 1<<32 - 1} {
		for _, n := range []int{0, 1, 4} {
			if int(length) <= n {
				continue
			}
			torn(t, told(length, sample(n)))
		}
	}
	payload := sample(1 << 16)
	record := told(1<<16, payload)
	torn(t, record[:len(record)-1])
	holds(t, record, []item{{0, string(payload)}}, 1<<16+8)
}

func TestLengthBeyondTheBound(t *testing.T) {
	for _, n := range []int{1<<16 + 1, 1<<16 + 2, 1 << 17, 1 << 20} {
		torn(t, told(uint32(n), sample(n)))
		torn(t, append(told(uint32(n), sample(n)), told(0, nil)...))
	}
}

// A length isn't what its lower bytes alone tell.
func TestLengthHasFourBytes(t *testing.T) {
	for _, high := range []uint32{1 << 8, 1 << 16, 1 << 17, 1 << 24, 1 << 31} {
		torn(t, told(high+3, []byte("one")))
		torn(t, told(high, nil))
	}
}

// P7.1: a changed byte tears its record and all behind it, and leaves what is ahead.

func TestChangedByte(t *testing.T) {
	payloads := some(t)
	row, items := put(t, payloads...)
	for n, it := range items {
		for i := range Size(len(it.payload)) {
			for _, flip := range []byte{1, 2, 0x10, 0x80, 0xff} {
				turned := slices.Clone(row)
				turned[it.at+i] ^= flip
				holds(t, turned, items[:n], it.at)
			}
		}
	}
}

// The check sum is of the length, too, not of the payload alone.
func TestCheckOfPayloadAlone(t *testing.T) {
	row := []byte{3, 0, 0, 0}
	row = binary.LittleEndian.AppendUint32(row, crc32.ChecksumIEEE([]byte("one")))
	torn(t, append(row, "one"...))
}

// What is behind a torn record isn't gone through, even if it is whole.
func TestNothingBehindTorn(t *testing.T) {
	ahead, items := put(t, "ahead")
	behind, _ := put(t, "behind")
	for _, gap := range []string{"\x00", "12345678", string(told(1, nil)), string(make([]byte, 16))} {
		holds(t, slices.Concat(ahead, []byte(gap), behind), items, len(ahead))
		torn(t, append([]byte(gap), behind...))
	}
}

// P7.1: a payload that is a record is a payload.
func TestRecordInRecord(t *testing.T) {
	inner, _ := put(t, "within", "", "more")
	middle, _ := put(t, string(inner))
	outer, items := put(t, string(middle), "next")
	holds(t, outer, items, len(outer))
	holds(t, []byte(through(outer)[0].payload), []item{{0, string(inner)}}, len(middle))
	torn(t, outer[:len(middle)+7])
}

// P7.2: what is put is gone through.

func TestRow(t *testing.T) {
	row, items := put(t, some(t)...)
	holds(t, row, items, len(row))
	many, items := put(t, slices.Repeat([]string{""}, 5000)...)
	holds(t, many, items, 40000)
	longest := string(sample(1 << 16))
	long, items := put(t, longest, "", longest)
	holds(t, long, items, len(long))
}

func TestBehindRow(t *testing.T) {
	row, items := put(t, some(t)...)
	for n := range 40 {
		holds(t, append(slices.Clone(row), make([]byte, n)...), items, len(row))
		holds(t, append(slices.Clone(row), bytes.Repeat([]byte{255}, n)...), items, len(row))
		holds(t, append(slices.Clone(row), sample(n)...), items, len(row))
	}
	more, _ := put(t, "more")
	for n := range more {
		holds(t, append(slices.Clone(row), more[:n]...), items, len(row))
	}
	with := append(slices.Clone(row), more...)
	holds(t, with, append(slices.Clone(items), item{len(row), "more"}), len(with))
}

// cutAt is what is left of records ahead of a cut, and how far they go.
func cutAt(items []item, cut int) ([]item, int) {
	n, end := 0, 0
	for n < len(items) && items[n].at+8+len(items[n].payload) <= cut {
		end = items[n].at + 8 + len(items[n].payload)
		n++
	}
	return items[:n], end
}

func TestCut(t *testing.T) {
	row, items := put(t, some(t)...)
	for cut := range len(row) + 1 {
		left, end := cutAt(items, cut)
		// What was cut off still stands in the spare room: it isn't read.
		holds(t, row[:cut], left, end)
		holds(t, bytes.Clone(row[:cut]), left, end)
		if cut < len(row) {
			holds(t, append(bytes.Clone(row[:cut]), ^row[cut]), left, end)
		}
	}
}

// TestRowsWithoutOrder holds rows of records that were turned, cut and grown against the chapter's words.
func TestRowsWithoutOrder(t *testing.T) {
	x := uint64(7)
	payloads := some(t)
	for range 3000 {
		var row []byte
		for range next(&x) % 6 {
			record, err := Put([]byte(payloads[next(&x)%len(payloads)]))
			if err != nil {
				t.Fatal(err)
			}
			row = append(row, record...)
		}
		for range next(&x) % 3 {
			if len(row) > 0 {
				row[next(&x)%len(row)] = byte(next(&x))
			}
		}
		row = row[:len(row)-next(&x)%(len(row)/4+1)]
		row = append(row, sample(next(&x)%12)...)
		want, end := plain(row)
		holds(t, row, want, end)
	}
}

// P7.1: an iterator ends when it is left, and begins anew.

func TestLeft(t *testing.T) {
	row, items := put(t, some(t)...)
	all := All(row)
	for stop := 1; stop <= len(items); stop++ {
		var got []item
		for at, payload := range all {
			got = append(got, item{at, string(payload)})
			if len(got) == stop {
				break
			}
		}
		if !slices.Equal(got, items[:stop]) {
			t.Error(stop, got)
		}
	}
	// Called by hand, so that going on behind an end would be seen.
	for stop := 1; stop <= len(items); stop++ {
		n := 0
		all(func(int, []byte) bool { n++; return n < stop })
		if n != stop {
			t.Error(stop, n)
		}
	}
}

func TestTwice(t *testing.T) {
	row, items := put(t, some(t)...)
	all := All(row)
	for range 2 {
		var got []item
		for at, payload := range all {
			got = append(got, item{at, string(payload)})
		}
		if !slices.Equal(got, items) {
			t.Error(got)
		}
	}
}

func TestWithin(t *testing.T) {
	row, items := put(t, some(t)...)
	all := All(row)
	n := 0
	for at, payload := range all {
		if (item{at, string(payload)}) != items[n] {
			t.Error(n, at)
		}
		m := 0
		for at, payload := range all {
			if (item{at, string(payload)}) != items[m] {
				t.Error(n, m, at)
			}
			if m++; m > n {
				break
			}
		}
		n++
	}
	if n != len(items) {
		t.Error(n)
	}
}

func TestAllOfNothing(t *testing.T) {
	for _, row := range [][]byte{nil, {}, {1, 2, 3}, make([]byte, 30)} {
		all := All(row)
		if all == nil {
			t.Fatal(row)
		}
		for at, payload := range all {
			t.Error(row, at, payload)
		}
	}
}

// P7.3

// roomy is a copy of text with spare room, and the whole of it with that room.
func roomy(text []byte) (part, whole []byte) {
	whole = append(bytes.Clone(text), bytes.Repeat([]byte{0xa5}, 40)...)
	return whole[:len(text)], whole
}

// turn changes every byte, the spare room's too.
func turn(b []byte) {
	for i := range b[:cap(b)] {
		b[:cap(b)][i] ^= 0x5a
	}
}

func TestPutLeavesPayload(t *testing.T) {
	for _, n := range []int{0, 1, 100, 1 << 16, 1<<16 + 1} {
		part, whole := roomy(sample(n))
		was := bytes.Clone(whole)
		record, err := Put(part)
		if !bytes.Equal(whole, was) || (err != nil) != (n > 1<<16) {
			t.Error(n, err)
		}
		had := bytes.Clone(record)
		turn(whole)
		if !bytes.Equal(record, had) {
			t.Error(n, "the record is turned")
		}
		turn(whole)
		turn(record)
		_ = append(record, 1, 2, 3)
		if !bytes.Equal(whole, was) {
			t.Error(n, "the payload is turned")
		}
	}
}

func TestPutAnswersNew(t *testing.T) {
	for _, payload := range []string{"", "one"} {
		a, _ := Put([]byte(payload))
		b, _ := Put([]byte(payload))
		had := string(b)
		turn(a)
		_ = append(a, 1, 2, 3)
		c, _ := Put([]byte(payload))
		if string(b) != had || string(c) != had {
			t.Errorf("%q: %q %q", payload, b, c)
		}
	}
}

func TestCallsLeaveRow(t *testing.T) {
	row, items := put(t, some(t)...)
	for _, cut := range []int{0, 5, 8, len(row) - 1, len(row)} {
		part, whole := roomy(row[:cut])
		was := bytes.Clone(whole)
		want, end := cutAt(items, cut)
		holds(t, part, want, end)
		if !bytes.Equal(whole, was) {
			t.Error(cut)
		}
	}
}

// The row is turned ahead of going through, and while it is gone through.
func TestRowTurnedLater(t *testing.T) {
	row, items := put(t, some(t)...)
	part, whole := roomy(row)
	all := All(part)
	for range 2 {
		turn(whole)
		var got []item
		for at, payload := range all {
			got = append(got, item{at, string(payload)})
			turn(whole)
		}
		if !slices.Equal(got, items) {
			t.Error(got)
		}
	}
}

func TestPayloadTurnedLater(t *testing.T) {
	row, items := put(t, some(t)...)
	part, whole := roomy(row)
	was := bytes.Clone(whole)
	all := All(part)
	var kept [][]byte
	for range 2 {
		n := 0
		for at, payload := range all {
			if (item{at, string(payload)}) != items[n] {
				t.Error(n, at)
			}
			kept = append(kept, bytes.Clone(payload))
			grown := append(payload, "grown behind its end"...)
			turn(grown)
			turn(payload)
			n++
		}
		if n != len(items) || !bytes.Equal(whole, was) {
			t.Error(n)
		}
	}
	for i, payload := range kept {
		if string(payload) != items[i%len(items)].payload {
			t.Error(i)
		}
	}
}

func TestPayloadsShareNothing(t *testing.T) {
	row, items := put(t, some(t)...)
	all := All(row)
	var kept [][]byte
	for range 2 {
		for _, payload := range all {
			kept = append(kept, payload)
		}
	}
	for i := range kept {
		was := bytes.Clone(kept[i])
		turn(kept[i])
		_ = append(kept[i], 1, 2, 3, 4, 5, 6, 7, 8, 9)
		for j := range kept {
			if j != i && string(kept[j]) != items[j%len(items)].payload {
				t.Error(i, j)
			}
		}
		copy(kept[i], was)
	}
}
