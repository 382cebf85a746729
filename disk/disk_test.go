package disk

import (
	"bytes"
	"fmt"
	"math"
	"slices"
	"strings"
	"testing"

	"cachet/api"
)

func empty(t *testing.T, quota int) *Disk {
	t.Helper()
	d, err := New(quota)
	if d == nil || err != nil {
		t.Fatal(quota, d, err)
	}
	return d
}

// done asks that a call was taken.
func done(t *testing.T, err error) {
	t.Helper()
	if err != nil {
		t.Fatal(err)
	}
}

// refused asks that a call answers an error, and has changed nothing.
func refused(t *testing.T, d *Disk, want error, call func() error) {
	t.Helper()
	was := look(d)
	if err := call(); err != want {
		t.Errorf("%v, not %v", err, want)
	}
	if now := look(d); now != was {
		t.Errorf("it was %s, now it is %s", was, now)
	}
}

func is(t *testing.T, d *Disk, want string) {
	t.Helper()
	if got := look(d); got != want {
		t.Errorf("it is %s, not %s", got, want)
	}
}

// two is a disk with the files a (abcdef, three of them sure) and b (xy, none sure).
func two(t *testing.T) *Disk {
	t.Helper()
	d := empty(t, 20)
	done(t, d.Append("a", []byte("abc")))
	done(t, d.Sync("a"))
	done(t, d.Append("a", []byte("def")))
	done(t, d.Append("b", []byte("xy")))
	is(t, d, `a="abcdef"/3 b="xy"/0 used 8 free 12 steps 4 down false left -1`)
	return d
}

// dark is that disk with its power gone.
func dark(t *testing.T) *Disk {
	t.Helper()
	d := two(t)
	done(t, d.Arm(0))
	if err := d.Sync("b"); err != api.ErrDown {
		t.Fatal(err)
	}
	is(t, d, `a="abcdef"/3 b="xy"/0 used 8 free 12 steps 4 down true left 0`)
	return d
}

// P6.1: the chapter's example.
func TestExample(t *testing.T) {
	d := empty(t, 6)
	done(t, d.Append("a", []byte("abc")))
	done(t, d.Sync("a"))
	done(t, d.Append("a", []byte("def")))
	d.Crash(1)
	if b, err := d.Read("a"); string(b) != "abcd" || err != nil {
		t.Error(b, err)
	}
	is(t, d, `a="abcd"/4 used 4 free 2 steps 3 down false left -1`)
}

// P6.1: quotas.
func TestNew(t *testing.T) {
	for _, quota := range []int{math.MinInt, -1, 1<<24 + 1, math.MaxInt} {
		if d, err := New(quota); d != nil || err != api.ErrRange {
			t.Error(quota, d, err)
		}
	}
	for _, quota := range []int{0, 1, 1 << 24} {
		is(t, empty(t, quota), fmt.Sprintf("used 0 free %d steps 0 down false left -1", quota))
	}
	d := empty(t, 1<<24)
	done(t, d.Append("a", make([]byte, 1<<24)))
	if d.Used() != 1<<24 || d.Free() != 0 || d.Append("a", []byte{1}) != api.ErrFull {
		t.Error(d.Used(), d.Free())
	}
}

// P6.1: what a name is, for Append and for Rename.
func TestNameForm(t *testing.T) {
	var good []string
	for c := range 256 {
		name := string([]byte{byte(c)})
		if strings.Contains("abcdefghijklmnopqrstuvwxyz0123456789.-", name) {
			good = append(good, name, "a"+name, name+"a")
			continue
		}
		for _, name := range []string{name, "a" + name, name + "a"} {
			badName(t, name)
		}
	}
	if len(good) != 3*38 {
		t.Fatal(len(good))
	}
	long := strings.Repeat("z", 63)
	for _, name := range append(good, "a", long, long+"-", "..", "-", "0") {
		d := two(t)
		done(t, d.Append(name, []byte("n")))
		if d.Sure(name) < 0 {
			t.Error(name)
		}
		d = two(t)
		done(t, d.Rename("a", name))
		if d.Sure(name) != 6 {
			t.Error(name)
		}
	}
	for _, name := range []string{"", long + "zz", strings.Repeat("a", 1000), "Log", "a b", "a/b", "ä", "aé", "日", "a\x00", "a_b"} {
		badName(t, name)
	}
}

func badName(t *testing.T, name string) {
	t.Helper()
	for _, d := range []*Disk{two(t), dark(t)} {
		refused(t, d, api.ErrName, func() error { return d.Append(name, nil) })
		refused(t, d, api.ErrName, func() error { return d.Append(name, []byte("a")) })
		refused(t, d, api.ErrName, func() error { return d.Rename("a", name) })
		refused(t, d, api.ErrName, func() error { return d.Rename(name, "a") })
		refused(t, d, api.ErrName, func() error { return d.Sync(name) })
		refused(t, d, api.ErrName, func() error { return d.Cut(name, 0) })
		refused(t, d, api.ErrName, func() error { return d.Drop(name) })
		if d.Sure(name) != -1 {
			t.Error(name)
		}
	}
	d := two(t)
	if b, err := d.Read(name); len(b) != 0 || err != api.ErrName {
		t.Error(name, b, err)
	}
}

// P6.1: Append at its edges.
func TestAppend(t *testing.T) {
	d := empty(t, 4)
	done(t, d.Append("a", nil))
	is(t, d, `a=""/0 used 0 free 4 steps 1 down false left -1`)
	done(t, d.Append("a", []byte("ab")))
	done(t, d.Append("a", []byte{}))
	is(t, d, `a="ab"/0 used 2 free 2 steps 3 down false left -1`)
	refused(t, d, api.ErrFull, func() error { return d.Append("b", []byte("xyz")) })
	refused(t, d, api.ErrFull, func() error { return d.Append("a", []byte("xyz")) })
	done(t, d.Append("b", []byte("xy")))
	is(t, d, `a="ab"/0 b="xy"/0 used 4 free 0 steps 4 down false left -1`)
	refused(t, d, api.ErrFull, func() error { return d.Append("a", []byte("z")) })
	done(t, d.Append("c", nil))
	done(t, d.Sync("a"))
	done(t, d.Append("a", nil))
	is(t, d, `a="ab"/2 b="xy"/0 c=""/0 used 4 free 0 steps 7 down false left -1`)

	none := empty(t, 0)
	done(t, none.Append("a", nil))
	refused(t, none, api.ErrFull, func() error { return none.Append("a", []byte("a")) })
	is(t, none, `a=""/0 used 0 free 0 steps 1 down false left -1`)
}

// P6.1: bytes that were made sure stay so while more come.
func TestSync(t *testing.T) {
	d := two(t)
	done(t, d.Sync("a"))
	is(t, d, `a="abcdef"/6 b="xy"/0 used 8 free 12 steps 5 down false left -1`)
	done(t, d.Sync("a"))
	done(t, d.Append("a", []byte("g")))
	is(t, d, `a="abcdefg"/6 b="xy"/0 used 9 free 11 steps 7 down false left -1`)
	done(t, d.Append("c", nil))
	done(t, d.Sync("c"))
	is(t, d, `a="abcdefg"/6 b="xy"/0 c=""/0 used 9 free 11 steps 9 down false left -1`)
	refused(t, d, api.ErrName, func() error { return d.Sync("d") })
}

// P6.1: Cut at its edges.
func TestCut(t *testing.T) {
	for size, want := range []string{`""/0`, `"a"/1`, `"ab"/2`, `"abc"/3`, `"abcd"/3`, `"abcde"/3`, `"abcdef"/3`} {
		d := two(t)
		done(t, d.Cut("a", size))
		is(t, d, fmt.Sprintf(`a=%s b="xy"/0 used %d free %d steps 5 down false left -1`, want, size+2, 18-size))
	}
	for _, size := range []int{math.MinInt, -1, 7, math.MaxInt} {
		d := two(t)
		refused(t, d, api.ErrRange, func() error { return d.Cut("a", size) })
		refused(t, d, api.ErrName, func() error { return d.Cut("c", size) })
	}
	d := two(t)
	refused(t, d, api.ErrName, func() error { return d.Cut("c", 0) })
	done(t, d.Cut("a", 2))
	done(t, d.Append("a", []byte("zzzz")))
	is(t, d, `a="abzzzz"/2 b="xy"/0 used 8 free 12 steps 6 down false left -1`)
	done(t, d.Cut("a", 0))
	done(t, d.Cut("a", 0))
	done(t, d.Append("b", make([]byte, 18)))
	refused(t, d, api.ErrFull, func() error { return d.Append("b", []byte{0}) })
}

// P6.1: Rename at its edges.
func TestRename(t *testing.T) {
	d := two(t)
	done(t, d.Rename("a", "c"))
	is(t, d, `b="xy"/0 c="abcdef"/6 used 8 free 12 steps 5 down false left -1`)
	refused(t, d, api.ErrName, func() error { return d.Sync("a") })
	done(t, d.Append("a", []byte("new")))
	is(t, d, `a="new"/0 b="xy"/0 c="abcdef"/6 used 11 free 9 steps 6 down false left -1`)

	d = two(t)
	done(t, d.Rename("a", "a"))
	is(t, d, `a="abcdef"/6 b="xy"/0 used 8 free 12 steps 5 down false left -1`)

	d = two(t)
	done(t, d.Rename("a", "b"))
	is(t, d, `b="abcdef"/6 used 6 free 14 steps 5 down false left -1`)
	done(t, d.Append("b", make([]byte, 14)))

	d = two(t)
	done(t, d.Rename("b", "a"))
	is(t, d, `a="xy"/2 used 2 free 18 steps 5 down false left -1`)

	d = two(t)
	for _, to := range []string{"a", "b", "c", "d", "", "A"} {
		refused(t, d, api.ErrName, func() error { return d.Rename("c", to) })
	}
	refused(t, d, api.ErrName, func() error { return d.Rename("a", "a/b") })
}

// P6.1: Drop, and that a file made again has nothing of the one before.
func TestDrop(t *testing.T) {
	d := two(t)
	done(t, d.Drop("a"))
	is(t, d, `b="xy"/0 used 2 free 18 steps 5 down false left -1`)
	refused(t, d, api.ErrName, func() error { return d.Drop("a") })
	done(t, d.Append("a", []byte("q")))
	is(t, d, `a="q"/0 b="xy"/0 used 3 free 17 steps 6 down false left -1`)
	done(t, d.Drop("b"))
	done(t, d.Drop("a"))
	is(t, d, `used 0 free 20 steps 8 down false left -1`)
	done(t, d.Append("c", make([]byte, 20)))
}

// P6.1: Read, with the power there and gone.
func TestRead(t *testing.T) {
	d := two(t)
	if b, err := d.Read("a"); string(b) != "abcdef" || err != nil {
		t.Error(b, err)
	}
	done(t, d.Append("c", nil))
	if b, err := d.Read("c"); len(b) != 0 || err != nil {
		t.Error(b, err)
	}
	if b, err := d.Read("d"); len(b) != 0 || err != api.ErrName {
		t.Error(b, err)
	}
	if d.Steps() != 5 {
		t.Error("reading counts", d.Steps())
	}
	d = dark(t)
	for _, name := range []string{"a", "b", "c", "", "A"} {
		if b, err := d.Read(name); len(b) != 0 || err != api.ErrDown {
			t.Error(name, b, err)
		}
	}
	armed := two(t)
	done(t, armed.Arm(0))
	if b, err := armed.Read("a"); string(b) != "abcdef" || err != nil || armed.Down() {
		t.Error("reading is no step", b, err)
	}
}

// P6.1: names rise by their bytes.
func TestNames(t *testing.T) {
	d := empty(t, 0)
	if names := d.Names(); len(names) != 0 {
		t.Error(names)
	}
	want := []string{"-", "-a", ".", "0", "00", "10", "2", "9z", "a", "a-", "a.", "a0", "aa", "ab", "b", "z", "zz"}
	for i := range want {
		done(t, d.Append(want[i*7%len(want)], nil))
	}
	if names := d.Names(); !slices.Equal(names, want) {
		t.Error(names)
	}
	many := empty(t, 0)
	next := pick(3)
	for range 2000 {
		done(t, many.Append(fmt.Sprint(next(100000)), nil))
	}
	names := many.Names()
	if len(names) < 1000 || !slices.IsSorted(names) || len(slices.Compact(slices.Clone(names))) != len(names) {
		t.Error(len(names))
	}
	if names := dark(t).Names(); !slices.Equal(names, []string{"a", "b"}) {
		t.Error(names)
	}
}

// P6.1: an armed disk does just so many steps, of whatever kind.
func TestArm(t *testing.T) {
	kinds := []func(d *Disk) error{
		func(d *Disk) error { return d.Append("a", []byte("g")) },
		func(d *Disk) error { return d.Append("n", nil) },
		func(d *Disk) error { return d.Sync("a") },
		func(d *Disk) error { return d.Cut("a", 1) },
		func(d *Disk) error { return d.Rename("b", "b") },
		func(d *Disk) error { return d.Drop("a") },
	}
	for steps := range 6 {
		d := two(t)
		done(t, d.Arm(steps))
		for i, kind := range kinds {
			if i < steps {
				done(t, kind(d))
				continue
			}
			was := strings.Split(look(d), " steps")[0]
			if err := kind(d); err != api.ErrDown || !d.Down() || d.Steps() != 4+steps {
				t.Error(steps, i, err)
			}
			if now := strings.Split(look(d), " steps")[0]; now != was {
				t.Error(was, now)
			}
		}
	}
}

// P6.1: an armed disk isn't down till a step fails; arming again counts anew;
// calls that fail ahead of their step count none.
func TestArmAgain(t *testing.T) {
	d := two(t)
	for _, steps := range []int{math.MinInt, -1} {
		refused(t, d, api.ErrRange, func() error { return d.Arm(steps) })
	}
	done(t, d.Arm(5))
	refused(t, d, api.ErrRange, func() error { return d.Arm(-1) })
	done(t, d.Arm(1))
	refused(t, d, api.ErrName, func() error { return d.Append("A", nil) })
	refused(t, d, api.ErrFull, func() error { return d.Append("a", make([]byte, 13)) })
	refused(t, d, api.ErrName, func() error { return d.Sync("c") })
	refused(t, d, api.ErrName, func() error { return d.Cut("c", 0) })
	refused(t, d, api.ErrRange, func() error { return d.Cut("a", 7) })
	refused(t, d, api.ErrName, func() error { return d.Rename("c", "d") })
	refused(t, d, api.ErrName, func() error { return d.Rename("a", "") })
	refused(t, d, api.ErrName, func() error { return d.Drop("c") })
	is(t, d, `a="abcdef"/3 b="xy"/0 used 8 free 12 steps 4 down false left 1`)
	done(t, d.Sync("b"))
	is(t, d, `a="abcdef"/3 b="xy"/2 used 8 free 12 steps 5 down false left 0`)
	refused(t, d, api.ErrName, func() error { return d.Drop("c") })
	done(t, d.Arm(2))
	is(t, d, `a="abcdef"/3 b="xy"/2 used 8 free 12 steps 5 down false left 2`)
	done(t, d.Arm(0))
	is(t, d, `a="abcdef"/3 b="xy"/2 used 8 free 12 steps 5 down false left 0`)
	if err := d.Drop("a"); err != api.ErrDown || !d.Down() {
		t.Error(err)
	}
	done(t, d.Arm(3))
	is(t, d, `a="abcdef"/3 b="xy"/2 used 8 free 12 steps 5 down true left 0`)
	refused(t, d, api.ErrRange, func() error { return d.Arm(-1) })
	refused(t, d, api.ErrDown, func() error { return d.Drop("a") })
	done(t, d.Arm(math.MaxInt))
	d.Crash(0)
	is(t, d, `a="abc"/3 b="xy"/2 used 5 free 15 steps 5 down false left -1`)
}

// P6.1: which error is asked first.
func TestOrderOfErrors(t *testing.T) {
	zero := two(t)
	done(t, zero.Arm(0))
	for _, d := range []*Disk{two(t), dark(t), zero} {
		refused(t, d, api.ErrName, func() error { return d.Append("A", make([]byte, 13)) })
		refused(t, d, api.ErrFull, func() error { return d.Append("a", make([]byte, 13)) })
		refused(t, d, api.ErrFull, func() error { return d.Append("c", make([]byte, 13)) })
		refused(t, d, api.ErrName, func() error { return d.Sync("c") })
		refused(t, d, api.ErrName, func() error { return d.Cut("c", -1) })
		refused(t, d, api.ErrRange, func() error { return d.Cut("a", -1) })
		refused(t, d, api.ErrRange, func() error { return d.Cut("a", 7) })
		refused(t, d, api.ErrName, func() error { return d.Rename("c", "d") })
		refused(t, d, api.ErrName, func() error { return d.Rename("a", "D") })
		refused(t, d, api.ErrName, func() error { return d.Drop("c") })
		refused(t, d, api.ErrRange, func() error { return d.Arm(-1) })
	}
	d := dark(t)
	refused(t, d, api.ErrDown, func() error { return d.Append("a", make([]byte, 12)) })
	refused(t, d, api.ErrDown, func() error { return d.Append("c", nil) })
	refused(t, d, api.ErrDown, func() error { return d.Sync("a") })
	refused(t, d, api.ErrDown, func() error { return d.Cut("a", 6) })
	refused(t, d, api.ErrDown, func() error { return d.Rename("a", "b") })
	refused(t, d, api.ErrDown, func() error { return d.Rename("a", "a") })
	refused(t, d, api.ErrDown, func() error { return d.Drop("a") })
	refused(t, d, api.ErrDown, func() error { _, err := d.Read("c"); return err })
}

// P6.1: crashes with each keep, the power there and gone, armed and not.
func TestCrash(t *testing.T) {
	armed := func(t *testing.T) *Disk {
		d := two(t)
		done(t, d.Arm(2))
		return d
	}
	wants := map[int]string{
		math.MinInt: `a="abc"/3 b=""/0 used 3 free 17`,
		-1:          `a="abc"/3 b=""/0 used 3 free 17`,
		0:           `a="abc"/3 b=""/0 used 3 free 17`,
		1:           `a="abcd"/4 b="x"/1 used 5 free 15`,
		2:           `a="abcde"/5 b="xy"/2 used 7 free 13`,
		3:           `a="abcdef"/6 b="xy"/2 used 8 free 12`,
		4:           `a="abcdef"/6 b="xy"/2 used 8 free 12`,
		math.MaxInt: `a="abcdef"/6 b="xy"/2 used 8 free 12`,
	}
	for keep, want := range wants {
		for _, start := range []func(*testing.T) *Disk{two, dark, armed} {
			d := start(t)
			d.Crash(keep)
			is(t, d, want+" steps 4 down false left -1")
			d.Crash(0)
			d.Crash(-5)
			is(t, d, want+" steps 4 down false left -1")
			done(t, d.Append("a", []byte("+")))
			done(t, d.Drop("b"))
			if b, err := d.Read("a"); err != nil || b[len(b)-1] != '+' || d.Sure("a") != len(b)-1 || d.Used() != len(b) || d.Steps() != 6 {
				t.Error(keep, b, err)
			}
			done(t, d.Append("c", slices.Repeat([]byte{1}, d.Free())))
			refused(t, d, api.ErrFull, func() error { return d.Append("a", []byte("-")) })
			done(t, d.Arm(1))
			done(t, d.Sync("c"))
			if err := d.Sync("c"); err != api.ErrDown || !d.Down() {
				t.Error(err)
			}
		}
	}
	none := empty(t, 3)
	none.Crash(2)
	is(t, none, "used 0 free 3 steps 0 down false left -1")
}

// P6.1: neither a disk nor its copy knows of what is done to the other.
func TestCopy(t *testing.T) {
	for _, start := range []func(*testing.T) *Disk{two, dark} {
		d := start(t)
		was := look(d)
		e := d.Copy()
		is(t, e, was)
		e.Crash(0)
		is(t, d, was)
		done(t, e.Append("a", []byte("123")))
		done(t, e.Append("c", []byte("123")))
		done(t, e.Drop("b"))
		done(t, e.Cut("a", 1))
		done(t, e.Arm(1))
		is(t, d, was)
	}
	d := two(t)
	e := d.Copy()
	was := look(e)
	done(t, d.Append("a", []byte("123")))
	done(t, d.Append("c", nil))
	done(t, d.Cut("b", 1))
	done(t, d.Sync("a"))
	is(t, e, was)
	done(t, d.Arm(0))
	if d.Drop("a") != api.ErrDown || e.Down() {
		t.Error("the power is the copy's own")
	}
	is(t, e, was)
	done(t, e.Append("a", []byte("xyz")))
	if b, _ := e.Read("a"); string(b) != "abcdefxyz" {
		t.Error(string(b))
	}
	d.Crash(9)
	if b, _ := d.Read("a"); string(b) != "abcdef123" {
		t.Error(string(b))
	}
}

// P6.1: what is put behind a file and behind its copy one by one, wherever there is spare room.
func TestCopyGrows(t *testing.T) {
	d := empty(t, 200)
	text := ""
	for range 100 {
		done(t, d.Append("a", []byte("d")))
		text += "d"
		e := d.Copy()
		done(t, e.Append("a", []byte("e")))
		f := d.Copy()
		done(t, f.Append("a", []byte("f")))
		for disk, want := range map[*Disk]string{d: text, e: text + "e", f: text + "f"} {
			if b, err := disk.Read("a"); string(b) != want || err != nil {
				t.Fatal(string(b), want)
			}
		}
	}
}

// P6.1: a nil disk.
func TestNil(t *testing.T) {
	var d *Disk
	for i, err := range []error{
		d.Append("a", []byte("a")), d.Append("A", nil), d.Sync("a"), d.Cut("a", 0), d.Cut("a", -1),
		d.Rename("a", "b"), d.Rename("a", "A"), d.Drop("a"), d.Arm(1), d.Arm(-1),
	} {
		if err != api.ErrDown {
			t.Error(i, err)
		}
	}
	if b, err := d.Read("a"); len(b) != 0 || err != api.ErrDown {
		t.Error(b, err)
	}
	d.Crash(1)
	d.Crash(-1)
	if len(d.Names()) != 0 || d.Sure("a") != -1 || d.Used() != 0 || d.Free() != 0 || d.Steps() != 0 || !d.Down() || d.Copy() != nil {
		t.Error("a nil disk")
	}
}

// P6.2: acts in no order, the power gone at each step, a crash with each keep:
// of each file what is sure is left, and so many more, which is a beginning.
func TestCrashAnywhere(t *testing.T) {
	for seed := range uint64(40) {
		next := pick(1000 + seed)
		var acts []act
		for len(acts) < 30 {
			if a := drawn(next); a.kind != "arm" && a.kind != "crash" {
				acts = append(acts, a)
			}
		}
		for steps := range 25 {
			d := empty(t, 60)
			done(t, d.Arm(steps))
			for _, a := range acts {
				do(d, a)
			}
			outlives(t, d)
			d.Crash(steps % 4)
			for _, a := range acts {
				do(d, a)
				outlives(t, d)
			}
		}
	}
}

func outlives(t *testing.T, d *Disk) {
	t.Helper()
	lit := d.Copy()
	lit.Crash(math.MaxInt)
	for _, keep := range []int{-1, 0, 1, 2, 3, 5, 60, math.MaxInt} {
		e := d.Copy()
		e.Crash(keep)
		if !slices.Equal(e.Names(), d.Names()) || e.Down() || e.Steps() != d.Steps() {
			t.Fatal(look(d), keep, look(e))
		}
		used := 0
		for _, name := range d.Names() {
			was, err := lit.Read(name)
			done(t, err)
			left, err := e.Read(name)
			done(t, err)
			sure := d.Sure(name)
			if len(left)-sure != min(max(keep, 0), len(was)-sure) || !bytes.HasPrefix(was, left) || e.Sure(name) != len(left) {
				t.Fatal(look(d), keep, look(e))
			}
			used += len(left)
		}
		if e.Used() != used || e.Used()+e.Free() != 60 {
			t.Fatal(e.Used(), e.Free(), used)
		}
	}
}

// P6.3: what was handed to Append, spare room included, is left as it was and not kept.
func TestArguments(t *testing.T) {
	for _, room := range []int{0, 1, 9} {
		row := bytes.Repeat([]byte("q"), 5+room)
		b := row[:5]
		d := empty(t, 40)
		done(t, d.Append("a", b))
		done(t, d.Append("a", b))
		done(t, d.Append("b", b))
		done(t, d.Append("b", []byte("rs")))
		done(t, d.Cut("a", 4))
		done(t, d.Append("a", []byte("tu")))
		done(t, d.Sync("b"))
		d.Crash(3)
		if !bytes.Equal(row, bytes.Repeat([]byte("q"), 5+room)) {
			t.Error(string(row))
		}
		was := look(d)
		for i := range row {
			row[i] = '!'
		}
		is(t, d, was)
		is(t, d, `a="qqq"/3 b="qqqqqrs"/7 used 10 free 30 steps 7 down false left -1`)
	}
	d := empty(t, 40)
	b := []byte("keep")
	for _, call := range []func() error{
		func() error { return d.Append("A", b) },
		func() error { return d.Append("a", append(b, make([]byte, 40)...)) },
		func() error { done(t, d.Arm(0)); return d.Append("a", b) },
	} {
		if call() == nil || string(b) != "keep" {
			t.Error(string(b))
		}
	}
}

// P6.3: what is answered, turned later, turns nothing, not even in its spare room.
func TestAnswers(t *testing.T) {
	d := two(t)
	was := look(d)
	for range 2 {
		b, err := d.Read("a")
		done(t, err)
		b = append(b, "more"...)
		for i := range b[:cap(b)] {
			b[:cap(b)][i] = '!'
		}
		names := d.Names()
		names = append(names, "more")
		for i := range names[:cap(names)] {
			names[:cap(names)][i] = "!"
		}
		is(t, d, was)
	}
	b, _ := d.Read("a")
	c, _ := d.Read("a")
	b[0] = '!'
	if string(c) != "abcdef" {
		t.Error("two answers share", string(c))
	}
	done(t, d.Append("a", []byte("gh")))
	done(t, d.Cut("a", 1))
	done(t, d.Append("a", []byte("zzzzz")))
	d.Crash(0)
	if string(c) != "abcdef" {
		t.Error("the disk turned an answer", string(c))
	}
	d = two(t)
	b, _ = d.Read("a")
	b = b[:cap(b)]
	kept := string(b)
	done(t, d.Append("a", []byte("gh")))
	if string(b) != kept {
		t.Error("the disk wrote into an answer's spare room")
	}
}

// P6.3: what a cut or a crash takes away isn't held in a file's spare room.
func TestSpareRoom(t *testing.T) {
	d := empty(t, 1<<20)
	done(t, d.Append("a", make([]byte, 1<<20)))
	done(t, d.Cut("a", 5))
	if n := cap(d.files["a"].data); n > 64 {
		t.Error("behind a cut", n)
	}
	done(t, d.Append("a", make([]byte, 1<<19)))
	d.Crash(0)
	if n := cap(d.files["a"].data); n > 64 {
		t.Error("behind a crash", n)
	}
}
