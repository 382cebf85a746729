package segs

import (
	"encoding/binary"
	"fmt"
	"hash/crc32"
	"math"
	"slices"
	"strings"
	"testing"

	"cachet/api"
	"cachet/disk"
)

func empty(t *testing.T, quota int) *disk.Disk {
	t.Helper()
	d, err := disk.New(quota)
	done(t, err)
	return d
}

func done(t *testing.T, err error) {
	t.Helper()
	if err != nil {
		t.Fatal(err)
	}
}

func opened(t *testing.T, d *disk.Disk, size int) *Store {
	t.Helper()
	s, err := Open(d, size)
	if s == nil || err != nil {
		t.Fatal(s, err)
	}
	return s
}

// text is n bytes that tell which payload they are.
func text(n int, sign byte) string {
	return strings.Repeat(string([]byte{sign}), n)
}

// rows is texts as payloads.
func rows(texts ...string) [][]byte {
	var out [][]byte
	for _, s := range texts {
		out = append(out, []byte(s))
	}
	return out
}

// records is texts' records, one behind the other, reckoned without layers 2 and 7.
func records(texts ...string) string {
	var out []byte
	for _, s := range texts {
		row := binary.LittleEndian.AppendUint32(nil, uint32(len(s)))
		out = append(out, row...)
		out = binary.LittleEndian.AppendUint32(out, crc32.ChecksumIEEE(append(row, s...)))
		out = append(out, s...)
	}
	return string(out)
}

// number is the manifest that tells of n.
func number(n uint32) string {
	return records(string(binary.LittleEndian.AppendUint32(nil, n)))
}

func seg(n int) string {
	return fmt.Sprintf("seg-%08d", n)
}

// files is a disk with these files; all their bytes are sure.
func files(t *testing.T, quota int, texts map[string]string) *disk.Disk {
	t.Helper()
	d := empty(t, quota)
	for name, text := range texts {
		done(t, d.Append(name, []byte(text)))
		done(t, d.Sync(name))
	}
	return d
}

// dark lets the power go.
func dark(t *testing.T, d *disk.Disk) {
	t.Helper()
	done(t, d.Arm(0))
	if err := d.Append("dark", nil); err != api.ErrDown || !d.Down() {
		t.Fatal(err)
	}
}

// content is the files of a disk, whether the power is there or not.
func content(d *disk.Disk) string {
	lit := d.Copy()
	lit.Crash(math.MaxInt)
	var b strings.Builder
	for _, name := range d.Names() {
		row, _ := lit.Read(name)
		if len(row) > 200 {
			row = fmt.Appendf(nil, "%d bytes, %08x", len(row), crc32.ChecksumIEEE(row))
		}
		fmt.Fprintf(&b, "%s=%q/%d ", name, row, d.Sure(name))
	}
	return b.String()
}

// look is all that calls tell of a disk.
func look(d *disk.Disk) string {
	return fmt.Sprintf("%sused %d free %d steps %d down %t left %d", content(d), d.Used(), d.Free(), d.Steps(), d.Down(), left(d.Copy()))
}

// left is how many steps are still done, or -1, if it is more than any test arms with.
func left(d *disk.Disk) int {
	for n := range 100 {
		if d.Append("z", nil) != nil {
			return n
		}
	}
	return -1
}

func texts(s *Store) []string {
	var out []string
	for i, payload := range s.All() {
		if i != len(out) {
			out = append(out, fmt.Sprint("at ", i))
		}
		out = append(out, string(payload))
	}
	return out
}

// holds asks for all that a store tells.
func holds(t *testing.T, s *Store, want []string, sure, last int, stuck error) {
	t.Helper()
	if got := texts(s); !slices.Equal(got, want) {
		t.Errorf("it holds %.300q, not %.300q", got, want)
	}
	if s.Len() != len(want) || s.Sure() != sure || s.Last() != last || s.Stuck() != stuck {
		t.Errorf("len %d, sure %d, last %d, stuck %v; not %d, %d, %d, %v", s.Len(), s.Sure(), s.Last(), s.Stuck(), len(want), sure, last, stuck)
	}
}

func is(t *testing.T, d *disk.Disk, want string) {
	t.Helper()
	if got := content(d); got != want {
		t.Errorf("the disk has %s, not %s", got, want)
	}
}

// same asks that a call answers an error, and has left the disk as it was.
func same(t *testing.T, d *disk.Disk, want error, call func() error) {
	t.Helper()
	was := look(d)
	if err := call(); err != want {
		t.Errorf("%v, not %v", err, want)
	}
	if now := look(d); now != was {
		t.Errorf("it was %s, now it is %s", was, now)
	}
}

// act is a step of a disk.
type act func(d *disk.Disk) error

func puts(name, text string) act {
	return func(d *disk.Disk) error { return d.Append(name, []byte(text)) }
}

func syncs(name string) act {
	return func(d *disk.Disk) error { return d.Sync(name) }
}

func cuts(name string, size int) act {
	return func(d *disk.Disk) error { return d.Cut(name, size) }
}

func renames(from, to string) act {
	return func(d *disk.Disk) error { return d.Rename(from, to) }
}

func drops(name string) act {
	return func(d *disk.Disk) error { return d.Drop(name) }
}

// begun is how a segment is begun.
func begun(n uint32) []act {
	return []act{puts("manifest.new", number(n)), syncs("manifest.new"), renames("manifest.new", "manifest")}
}

// pick is numbers below n, without an order.
func pick(seed uint64) func(n int) int {
	x := seed
	return func(n int) int {
		x = x*6364136223846793005 + 1442695040888963407
		return int(x>>33) % n
	}
}
