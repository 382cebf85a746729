package segs

import (
	"math"
	"slices"
	"strings"
	"testing"

	"cachet/api"
	"cachet/disk"
)

// P8.1: the chapter's example.
func TestExample(t *testing.T) {
	d := empty(t, 1000)
	s := opened(t, d, 64)
	holds(t, s, nil, 0, 1, nil)
	var want []string
	for n := range 4 {
		want = append(want, text(30, 'a'+byte(n)))
		done(t, s.Append([]byte(want[n])))
		holds(t, s, want, 0, n+1, nil)
		if b, err := d.Read(seg(n + 1)); string(b) != records(want[n]) || err != nil {
			t.Error(n, b, err)
		}
	}
	done(t, s.Sync())
	holds(t, s, want, 4, 4, nil)
	if b, err := d.Read("manifest"); string(b) != number(4) || err != nil {
		t.Error(b, err)
	}
	if names := d.Names(); !slices.Equal(names, []string{"manifest", seg(1), seg(2), seg(3), seg(4)}) {
		t.Error(names)
	}
	holds(t, opened(t, d, 64), want, 4, 4, nil)
}

// P8.1: sizes of segments, which are asked ahead of the power.
func TestOpenSizes(t *testing.T) {
	down := empty(t, 10)
	dark(t, down)
	torn := files(t, 10, map[string]string{"manifest": "torn", "manifest.new": ""})
	for _, size := range []int{math.MinInt, -1, 0, 1, 63, 1<<20 + 1, 1 << 21, math.MaxInt} {
		for _, d := range []*disk.Disk{empty(t, 10), down, torn} {
			same(t, d, api.ErrRange, func() error {
				s, err := Open(d, size)
				if s != nil {
					t.Error(size, s)
				}
				return err
			})
		}
		if s, err := Open(nil, size); s != nil || err != api.ErrRange {
			t.Error(size, s, err)
		}
	}
	for _, size := range []int{64, 65, 1<<20 - 1, 1 << 20} {
		d := empty(t, 10)
		same(t, d, nil, func() error {
			s, err := Open(d, size)
			holds(t, s, nil, 0, 1, nil)
			return err
		})
		if s, err := Open(nil, size); s != nil || err != api.ErrDown {
			t.Error(size, s, err)
		}
	}
}

// P8.1: when a segment is begun: payloads of these lengths come one behind the other.
func TestWhenBegun(t *testing.T) {
	for _, x := range []struct {
		size    int
		lengths []int
		want    []int // in which segment each is
	}{
		{64, []int{56}, []int{1}},
		{64, []int{57}, []int{1}},
		{64, []int{56, 0}, []int{1, 2}},
		{64, []int{24, 24}, []int{1, 1}},
		{64, []int{24, 25}, []int{1, 2}},
		{64, []int{24, 24, 0}, []int{1, 1, 2}},
		{64, []int{0, 0, 0, 0, 0, 0, 0, 0}, []int{1, 1, 1, 1, 1, 1, 1, 1}},
		{64, []int{0, 0, 0, 0, 0, 0, 0, 0, 0}, []int{1, 1, 1, 1, 1, 1, 1, 1, 2}},
		{64, []int{0, 48}, []int{1, 1}},
		{64, []int{0, 49}, []int{1, 2}},
		{64, []int{48, 0}, []int{1, 1}},
		{64, []int{49, 0}, []int{1, 2}},
		{64, []int{100}, []int{1}},
		{64, []int{100, 0}, []int{1, 2}},
		{64, []int{0, 100, 0}, []int{1, 2, 3}},
		{64, []int{100, 100, 100, 1, 2, 3}, []int{1, 2, 3, 4, 4, 4}},
		{65, []int{24, 25}, []int{1, 1}},
		{65, []int{24, 26}, []int{1, 2}},
		{1000, []int{484, 500}, []int{1, 1}},
		{1000, []int{484, 501}, []int{1, 2}},
		{1 << 16, []int{1 << 16, 1 << 16, 1}, []int{1, 2, 3}},
		{1<<16 + 8, []int{1 << 16, 1 << 16, 1}, []int{1, 2, 3}},
		{1<<16 + 17, []int{1 << 16, 1, 1}, []int{1, 1, 2}},
		{1<<17 + 16, []int{1 << 16, 1 << 16, 0}, []int{1, 1, 2}},
		{1<<17 + 15, []int{1 << 16, 1 << 16, 0}, []int{1, 2, 2}},
		{1 << 20, append(slices.Repeat([]int{1<<16 - 8}, 16), 0), append(slices.Repeat([]int{1}, 16), 2)},
		{1 << 20, slices.Repeat([]int{1 << 16}, 16), append(slices.Repeat([]int{1}, 15), 2)},
	} {
		var all []string
		for i, n := range x.lengths {
			all = append(all, text(n, 'a'+byte(i)))
		}
		last := x.want[len(x.want)-1]

		d := empty(t, 1<<22)
		s := opened(t, d, x.size)
		for i := range all {
			done(t, s.Append([]byte(all[i])))
			holds(t, s, all[:i+1], 0, x.want[i], nil)
		}
		inSegments(t, d, all, x.want)

		atOnce := empty(t, 1<<22)
		s = opened(t, atOnce, x.size)
		done(t, s.Append(rows(all...)...))
		holds(t, s, all, 0, last, nil)
		inSegments(t, atOnce, all, x.want)
		if content(d) != content(atOnce) {
			t.Error(x.size, x.lengths, content(d), content(atOnce))
		}
		done(t, s.Sync())
		holds(t, s, all, len(all), last, nil)
		holds(t, opened(t, atOnce, 64), all, len(all), last, nil)
	}
}

func inSegments(t *testing.T, d *disk.Disk, all []string, where []int) {
	t.Helper()
	want := map[string]string{}
	for i, n := range where {
		want[seg(n)] += records(all[i])
	}
	if last := where[len(where)-1]; last > 1 {
		want["manifest"] = number(uint32(last))
	}
	if len(d.Names()) != len(want) {
		t.Error(d.Names())
	}
	for name, text := range want {
		if b, err := d.Read(name); string(b) != text || err != nil {
			t.Errorf("%s: %.100q, not %.100q", name, b, text)
		}
	}
}

// P8.1: payloads of no bytes, and none.
func TestNothingAppended(t *testing.T) {
	d := empty(t, 100)
	s := opened(t, d, 64)
	same(t, d, nil, func() error { return s.Append() })
	same(t, d, nil, func() error { return s.Append([][]byte{}...) })
	holds(t, s, nil, 0, 1, nil)
	done(t, s.Append(nil))
	done(t, s.Append([]byte{}, nil))
	holds(t, s, []string{"", "", ""}, 0, 1, nil)
	is(t, d, seg(1)+`="\x00\x00\x00\x00\x1c\xdfD!\x00\x00\x00\x00\x1c\xdfD!\x00\x00\x00\x00\x1c\xdfD!"/0 `)
	if d.Steps() != 3 {
		t.Error(d.Steps())
	}
	done(t, s.Sync())
	holds(t, s, []string{"", "", ""}, 3, 1, nil)
	same(t, d, nil, func() error { return s.Append() })
	holds(t, s, []string{"", "", ""}, 3, 1, nil)
}

// P8.1: a payload that is too long: nothing is done, and the store isn't stuck.
func TestTooLong(t *testing.T) {
	d := empty(t, 1<<20)
	s := opened(t, d, 64)
	longest, longer := make([]byte, 1<<16), make([]byte, 1<<16+1)
	for _, payloads := range [][][]byte{
		{longer}, {make([]byte, 1<<17)}, {make([]byte, 1<<22)}, {longer, longest}, {longest, longer}, {[]byte("a"), []byte("b"), longer, []byte("c")},
	} {
		same(t, d, api.ErrSize, func() error { return s.Append(payloads...) })
		holds(t, s, nil, 0, 1, nil)
	}
	done(t, s.Append(longest))
	holds(t, s, []string{string(longest)}, 0, 1, nil)
	same(t, d, api.ErrSize, func() error { return s.Append(longer) })
	done(t, s.Append(longest[:1<<16-1], longest))
	done(t, s.Sync())
	holds(t, s, []string{string(longest), string(longest[1:]), string(longest)}, 3, 3, nil)
}

// P8.1: only Sync and Open let payloads be sure.
func TestSure(t *testing.T) {
	d := empty(t, 1000)
	s := opened(t, d, 64)
	done(t, s.Append(rows("a", "b")...))
	holds(t, s, []string{"a", "b"}, 0, 1, nil)
	done(t, s.Sync())
	holds(t, s, []string{"a", "b"}, 2, 1, nil)
	if d.Sure(seg(1)) != 18 {
		t.Error(d.Sure(seg(1)))
	}
	all := []string{"a", "b", text(50, 'c'), text(50, 'd')}
	done(t, s.Append(rows(all[2:]...)...))
	holds(t, s, all, 2, 3, nil)
	if d.Sure(seg(1)) != 18 || d.Sure(seg(2)) != 58 || d.Sure(seg(3)) != 0 || d.Sure("manifest") != 12 {
		t.Error(content(d))
	}
	done(t, s.Sync())
	done(t, s.Sync())
	holds(t, s, all, 4, 3, nil)
	if d.Sure(seg(3)) != 58 {
		t.Error(content(d))
	}
}

// P8.1: Sync where the last segment isn't there does no step.
func TestSyncWithoutSegment(t *testing.T) {
	d := empty(t, 100)
	s := opened(t, d, 64)
	same(t, d, nil, s.Sync)
	holds(t, s, nil, 0, 1, nil)

	d = files(t, 100, map[string]string{"manifest": number(3), seg(1): records("one"), seg(2): records("two")})
	s = opened(t, d, 64)
	same(t, d, nil, s.Sync)
	holds(t, s, []string{"one", "two"}, 2, 3, nil)
	done(t, s.Append([]byte("three")))
	done(t, s.Sync())
	holds(t, s, []string{"one", "two", "three"}, 3, 3, nil)

	armed := empty(t, 100)
	s = opened(t, armed, 64)
	done(t, armed.Arm(0))
	same(t, armed, nil, s.Sync)
	same(t, armed, nil, func() error { return s.Append() })
	holds(t, s, nil, 0, 1, nil)
}

// room is where a disk's room is asked for: what stands there, what is to come, and what it needs.
type room struct {
	there, come []string
	used, need  int
}

func rooms() []room {
	a, b, c, d := text(30, 'a'), text(30, 'b'), text(30, 'c'), text(30, 'd')
	return []room{
		{nil, []string{a}, 0, 38},
		{nil, []string{""}, 0, 8},
		{nil, []string{text(56, 'x')}, 0, 64},
		{nil, []string{text(57, 'x')}, 0, 65},
		{nil, []string{text(1<<16, 'x')}, 0, 1<<16 + 8},
		{nil, []string{text(20, 'x'), text(20, 'y')}, 0, 56},
		{nil, []string{a, b}, 0, 76 + 24},
		{nil, []string{a, b, c, d}, 0, 152 + 24},
		{[]string{"x"}, []string{a, ""}, 9, 46},
		{[]string{a}, []string{text(18, 'x')}, 38, 26},
		{[]string{a}, []string{text(19, 'x')}, 38, 27 + 24},
		{[]string{a}, []string{b}, 38, 38 + 24},
		{[]string{a}, []string{b, c, d}, 38, 114 + 24},
		{[]string{a, b}, []string{""}, 88, 8},
		{[]string{a, b}, []string{c}, 88, 38 + 24},
		{[]string{a, b}, []string{c, d, a, b}, 88, 152 + 24},
	}
}

// P8.1, P8.3: a disk whose room is just enough, and one byte less.
func TestRoom(t *testing.T) {
	for i, x := range rooms() {
		for _, other := range []int{0, 5} {
			there := empty(t, 1000)
			s := opened(t, there, 64)
			done(t, there.Append("other", make([]byte, other)))
			done(t, s.Append(rows(x.there...)...))
			if there.Used() != other+x.used {
				t.Fatal(i, there.Used())
			}
			last, quota := s.Last(), other+x.used+x.need
			all := slices.Concat(x.there, x.come)

			d := within(t, there, quota)
			s = opened(t, d, 64)
			done(t, s.Append(rows(x.come...)...))
			holds(t, s, all, len(x.there), s.Last(), nil)
			done(t, s.Sync())
			holds(t, s, all, len(all), s.Last(), nil)
			holds(t, opened(t, d, 64), all, len(all), s.Last(), nil)

			d = within(t, there, quota-1)
			s = opened(t, d, 64)
			same(t, d, api.ErrFull, func() error { return s.Append(rows(x.come...)...) })
			stays(t, d, s, x.there, len(x.there), last, api.ErrFull)
		}
	}
}

// within is a disk with the same files and another quota.
func within(t *testing.T, d *disk.Disk, quota int) *disk.Disk {
	t.Helper()
	e := empty(t, quota)
	for _, name := range d.Names() {
		b, err := d.Read(name)
		done(t, err)
		done(t, e.Append(name, b))
	}
	return e
}

// stays asks that a store that is stuck refuses all writes by that error, does nothing, and is still gone through.
func stays(t *testing.T, d *disk.Disk, s *Store, want []string, sure, last int, stuck error) {
	t.Helper()
	for range 2 {
		same(t, d, stuck, func() error { return s.Append() })
		same(t, d, stuck, func() error { return s.Append(nil) })
		same(t, d, stuck, func() error { return s.Append([]byte("more")) })
		same(t, d, stuck, func() error { return s.Append(make([]byte, 1<<16+1)) })
		same(t, d, stuck, s.Sync)
		holds(t, s, want, sure, last, stuck)
	}
}

// P8.3: a store that is stuck by ErrFull stays so, even if there is room again;
// opened anew, what fits is taken.
func TestFull(t *testing.T) {
	d := empty(t, 120)
	done(t, d.Append("other", make([]byte, 40)))
	s := opened(t, d, 64)
	done(t, s.Append(rows("one", "two")...))
	done(t, s.Sync())
	done(t, s.Append([]byte("three")))
	want := []string{"one", "two", "three"}
	same(t, d, api.ErrFull, func() error { return s.Append(rows("a", "b", text(50, 'c'))...) })
	stays(t, d, s, want, 2, 1, api.ErrFull)
	done(t, d.Drop("other"))
	stays(t, d, s, want, 2, 1, api.ErrFull)
	dark(t, d)
	stays(t, d, s, want, 2, 1, api.ErrFull)
	d.Crash(math.MaxInt)
	stays(t, d, s, want, 2, 1, api.ErrFull)

	s = opened(t, d, 64)
	holds(t, s, want, 3, 1, nil)
	done(t, s.Append(rows("a", "b")...))
	done(t, s.Sync())
	holds(t, s, append(want, "a", "b"), 5, 1, nil)

	none := empty(t, 0)
	s = opened(t, none, 64)
	same(t, none, nil, func() error { return s.Append() })
	same(t, none, nil, s.Sync)
	same(t, none, api.ErrFull, func() error { return s.Append(nil) })
	stays(t, none, s, nil, 0, 1, api.ErrFull)
}

// P8.1: power that is off, with nothing to be done, too.
func TestPowerOff(t *testing.T) {
	start := func() (*disk.Disk, *Store) {
		d := empty(t, 200)
		s := opened(t, d, 64)
		done(t, s.Append(rows(text(30, 'a'), text(30, 'b'))...))
		done(t, s.Sync())
		done(t, s.Append([]byte("c")))
		dark(t, d)
		return d, s
	}
	want := []string{text(30, 'a'), text(30, 'b'), "c"}
	for _, call := range []func(s *Store) error{
		func(s *Store) error { return s.Append() },
		func(s *Store) error { return s.Append(nil) },
		func(s *Store) error { return s.Append([]byte("d")) },
		func(s *Store) error { return s.Append(rows(text(50, 'd'))...) },
		func(s *Store) error { return s.Sync() },
	} {
		d, s := start()
		holds(t, s, want, 2, 2, nil)
		same(t, d, api.ErrDown, func() error { return call(s) })
		stays(t, d, s, want, 2, 2, api.ErrDown)
		d.Crash(0)
		stays(t, d, s, want, 2, 2, api.ErrDown)
	}
	for _, call := range []func(s *Store) error{
		func(s *Store) error { return s.Append() },
		func(s *Store) error { return s.Append([]byte("d")) },
		func(s *Store) error { return s.Sync() },
	} {
		d := empty(t, 100)
		s := opened(t, d, 64)
		dark(t, d)
		same(t, d, api.ErrDown, func() error { return call(s) })
		stays(t, d, s, nil, 0, 1, api.ErrDown)
	}
}

// P8.1: which error is asked first.
func TestOrderOfErrors(t *testing.T) {
	tooMuch := rows(text(50, 'a'), text(50, 'b'), text(50, 'c'))
	tooLong := make([]byte, 1<<16+1)
	d := empty(t, 100)
	s := opened(t, d, 64)
	dark(t, d)
	same(t, d, api.ErrSize, func() error { return s.Append(tooLong) })
	same(t, d, api.ErrSize, func() error { return s.Append(append(tooMuch, tooLong)...) })
	holds(t, s, nil, 0, 1, nil)
	same(t, d, api.ErrFull, func() error { return s.Append(tooMuch...) })
	stays(t, d, s, nil, 0, 1, api.ErrFull)

	// Where a segment is to be begun, too, the room is asked ahead of the power.
	d = empty(t, 99)
	s = opened(t, d, 64)
	done(t, s.Append(rows(text(30, 'a'))...))
	dark(t, d)
	same(t, d, api.ErrFull, func() error { return s.Append(rows(text(30, 'b'))...) })
	stays(t, d, s, []string{text(30, 'a')}, 0, 1, api.ErrFull)

	d = empty(t, 100)
	s = opened(t, d, 64)
	dark(t, d)
	same(t, d, api.ErrDown, s.Sync)
	same(t, d, api.ErrDown, func() error { return s.Append(tooLong) })
	same(t, d, api.ErrDown, func() error { return s.Append(tooMuch...) })
}

// stepwise asks that a call does just these steps, in their order: the power goes ahead of each of them.
func stepwise(t *testing.T, start func() (*disk.Disk, *Store), acts []act, call func(d *disk.Disk, s *Store) error, check func(s *Store, down bool)) {
	t.Helper()
	for k := range len(acts) + 1 {
		d, s := start()
		e, _ := start()
		done(t, d.Arm(k))
		done(t, e.Arm(k))
		var want error
		for _, a := range acts {
			if want = a(e); want != nil {
				break
			}
		}
		if (want != nil) != (k < len(acts)) {
			t.Fatal(k, want)
		}
		if err := call(d, s); err != want {
			t.Error(k, err, want)
		}
		if look(d) != look(e) {
			t.Errorf("behind %d steps: %s, not %s", k, look(d), look(e))
		}
		check(s, want != nil)
	}
}

// P8.1: the steps of Append; if the power goes at one, the store holds what it held.
func TestAppendSteps(t *testing.T) {
	a, b, c := text(30, 'a'), text(30, 'b'), text(30, 'c')
	long := text(70, 'l')
	for _, x := range []struct {
		there, come []string
		acts        []act
	}{
		{nil, []string{"x"}, []act{puts(seg(1), records("x"))}},
		{nil, []string{"x", "", "y"}, []act{puts(seg(1), records("x")), puts(seg(1), records("")), puts(seg(1), records("y"))}},
		{nil, []string{long}, []act{puts(seg(1), records(long))}},
		{[]string{"x"}, []string{"y"}, []act{puts(seg(1), records("y"))}},
		{[]string{a}, []string{b}, slices.Concat([]act{syncs(seg(1))}, begun(2), []act{puts(seg(2), records(b))})},
		{[]string{a}, []string{"x", b, "y", c}, slices.Concat(
			[]act{puts(seg(1), records("x")), syncs(seg(1))}, begun(2),
			[]act{puts(seg(2), records(b)), puts(seg(2), records("y")), syncs(seg(2))}, begun(3),
			[]act{puts(seg(3), records(c))})},
		{[]string{a, b, c}, []string{long, long}, slices.Concat(
			[]act{syncs(seg(3))}, begun(4), []act{puts(seg(4), records(long)), syncs(seg(4))}, begun(5), []act{puts(seg(5), records(long))})},
	} {
		start := func() (*disk.Disk, *Store) {
			d := empty(t, 1000)
			s := opened(t, d, 64)
			done(t, s.Append(rows(x.there...)...))
			done(t, s.Sync())
			return d, s
		}
		_, s := start()
		last := s.Last()
		done(t, s.Append(rows(x.come...)...))
		grown := s.Last()
		stepwise(t, start, x.acts, func(d *disk.Disk, s *Store) error { return s.Append(rows(x.come...)...) }, func(s *Store, down bool) {
			t.Helper()
			if down {
				stays(t, s.disk, s, x.there, len(x.there), last, api.ErrDown)
			} else {
				holds(t, s, slices.Concat(x.there, x.come), len(x.there), grown, nil)
			}
		})
	}
}

// P8.1: the step of Sync.
func TestSyncSteps(t *testing.T) {
	start := func() (*disk.Disk, *Store) {
		d := empty(t, 1000)
		s := opened(t, d, 64)
		done(t, s.Append([]byte("one")))
		done(t, s.Sync())
		done(t, s.Append(rows("two", text(50, 'c'))...))
		return d, s
	}
	want := []string{"one", "two", text(50, 'c')}
	stepwise(t, start, []act{syncs(seg(2))}, func(d *disk.Disk, s *Store) error { return s.Sync() }, func(s *Store, down bool) {
		t.Helper()
		if down {
			stays(t, s.disk, s, want, 1, 2, api.ErrDown)
		} else {
			holds(t, s, want, 3, 2, nil)
		}
	})
}

// P8.1: a nil store.
func TestNil(t *testing.T) {
	var s *Store
	for range 2 {
		for i, err := range []error{s.Append(), s.Append(nil), s.Append([]byte("a")), s.Append(make([]byte, 1<<16+1)), s.Sync(), s.Stuck()} {
			if err != api.ErrState {
				t.Error(i, err)
			}
		}
		if s.Len() != 0 || s.Sure() != 0 || s.Last() != 0 || s.All() == nil || len(texts(s)) != 0 {
			t.Error(s.Len(), s.Sure(), s.Last(), texts(s))
		}
	}
}

func several(t *testing.T) (*disk.Disk, *Store, []string) {
	t.Helper()
	d := empty(t, 1000)
	s := opened(t, d, 64)
	want := []string{"one", "", text(50, 't'), "four", text(90, 'f'), "six"}
	done(t, s.Append(rows(want...)...))
	return d, s, want
}

// P8.1: an iterator ends when it is left, and begins anew.
func TestAllLeft(t *testing.T) {
	_, s, want := several(t)
	all := s.All()
	for stop := 1; stop <= len(want); stop++ {
		var got []string
		for i, payload := range all {
			if i != len(got) {
				t.Error(i)
			}
			if got = append(got, string(payload)); len(got) == stop {
				break
			}
		}
		if !slices.Equal(got, want[:stop]) {
			t.Error(stop, got)
		}
		// Called by hand, so that going on behind an end would be seen.
		n := 0
		all(func(int, []byte) bool { n++; return n < stop })
		if n != stop {
			t.Error(stop, n)
		}
	}
	for range 2 {
		n := 0
		for i, payload := range all {
			if string(payload) != want[i] {
				t.Error(i, payload)
			}
			m := 0
			for j, inner := range all {
				if string(inner) != want[j] || j != m {
					t.Error(i, j)
				}
				if m++; m > n {
					break
				}
			}
			n++
		}
		if n != len(want) {
			t.Error(n)
		}
	}
}

// P8.1: an iterator goes through what the store held when All was asked.
func TestAllWhileAppended(t *testing.T) {
	_, s, want := several(t)
	was, had := s.All(), slices.Clone(want)
	for i, payload := range s.All() {
		if i >= len(had) || string(payload) != had[i] {
			t.Fatal(i, payload)
		}
		more := text(i*9, 'm')
		done(t, s.Append([]byte(more), []byte("again")))
		want = append(want, more, "again")
	}
	holds(t, s, want, 0, s.Last(), nil)
	n := 0
	for i, payload := range was {
		if i != n || string(payload) != had[i] {
			t.Error(i, payload)
		}
		n++
	}
	if n != len(had) || len(want) != 3*len(had) {
		t.Error(n, len(want))
	}
	var none []string
	first := opened(t, empty(t, 100), 64)
	all := first.All()
	done(t, first.Append([]byte("a")))
	for _, payload := range all {
		none = append(none, string(payload))
	}
	if len(none) != 0 {
		t.Error(none)
	}
}

// turn changes every byte, the spare room's too.
func turn(b []byte) {
	for i := range b[:cap(b)] {
		b[:cap(b)][i] ^= 0x5a
	}
}

// P8.4: what is handed in, its spare room and the list itself, is left as it was, and not kept.
func TestArguments(t *testing.T) {
	d := empty(t, 1000)
	s := opened(t, d, 64)
	want := []string{"one", "", text(50, 't'), "four"}
	var wholes, list [][]byte
	for _, text := range want {
		whole := []byte(text + "spare room")
		wholes = append(wholes, whole)
		list = append(list, whole[:len(text)])
	}
	list = append(list, []byte("spare"))[:len(want)]
	done(t, s.Append(list...))
	for i, whole := range wholes {
		if string(whole) != want[i]+"spare room" || len(list[i]) != len(want[i]) {
			t.Error(i, whole)
		}
	}
	if string(list[:len(want)+1][len(want)]) != "spare" {
		t.Error("the list's spare room")
	}
	was := content(d)
	for i := range wholes {
		turn(wholes[i])
		list[i] = []byte("other")
	}
	holds(t, s, want, 0, 3, nil)
	is(t, d, was)
	done(t, s.Sync())
	holds(t, opened(t, d, 64), want, 4, 3, nil)

	// The same memory again and again.
	row := []byte("0")
	for i := range 5 {
		row[0] = '0' + byte(i)
		done(t, s.Append(row, row))
		want = append(want, string(row), string(row))
	}
	holds(t, s, want, 4, s.Last(), nil)

	// Refused calls, too.
	full := opened(t, empty(t, 10), 64)
	whole := []byte("too muchspare room")
	if full.Append(whole[:8]) != api.ErrFull || string(whole) != "too muchspare room" {
		t.Error(string(whole))
	}
}

// P8.4: what was answered is turned; neither the store nor its disk nor another answer knows of it.
func TestAnswers(t *testing.T) {
	d, s, want := several(t)
	done(t, s.Sync())
	was := content(d)
	for _, s := range []*Store{s, opened(t, d, 64)} {
		all := s.All()
		for range 2 {
			for i, payload := range all {
				if string(payload) != want[i] {
					t.Error(i, payload)
				}
				turn(append(payload, "grown behind its end"...))
				turn(payload)
			}
			holds(t, s, want, len(want), s.Last(), nil)
			is(t, d, was)
		}
		var kept [][]byte
		for range 2 {
			for _, payload := range all {
				kept = append(kept, payload)
			}
		}
		for i := range kept {
			turn(kept[i])
			_ = append(kept[i], "grown"...)
			for j := range kept {
				if j != i && string(kept[j]) != want[j%len(want)] {
					t.Error(i, j)
				}
			}
			turn(kept[i])
		}
	}
	holds(t, opened(t, d, 64), want, len(want), s.Last(), nil)
}

// Many segments, whose numbers have more than one figure.
func TestManySegments(t *testing.T) {
	d := empty(t, 1<<20)
	s := opened(t, d, 64)
	var want []string
	for i := range 1200 {
		want = append(want, strings.Repeat("x", 40+i%20))
		done(t, s.Append([]byte(want[i])))
	}
	done(t, s.Sync())
	holds(t, s, want, 1200, 1200, nil)
	for _, name := range []string{"seg-00000009", "seg-00000010", "seg-00000999", "seg-00001000", "seg-00001200"} {
		if d.Sure(name) < 48 {
			t.Error(name, d.Sure(name))
		}
	}
	holds(t, opened(t, d, 1<<20), want, 1200, 1200, nil)
}
