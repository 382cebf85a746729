package segs

import (
	"encoding/binary"
	"maps"
	"math"
	"slices"
	"testing"

	"cachet/api"
	"cachet/disk"
)

// corrupt asks that a disk isn't opened, and is left as it was.
func corrupt(t *testing.T, d *disk.Disk) {
	t.Helper()
	same(t, d, api.ErrCorrupt, func() error {
		s, err := Open(d, 64)
		if s != nil {
			t.Error("a store beside an error")
		}
		return err
	})
}

// found asks what is held when files are opened, by just these steps.
func found(t *testing.T, texts map[string]string, want []string, last int, acts ...act) {
	t.Helper()
	start := func() (*disk.Disk, *Store) { return files(t, 1<<20, texts), nil }
	call := func(d *disk.Disk, _ *Store) error {
		s, err := Open(d, 64)
		if err == nil {
			holds(t, s, want, len(want), last, nil)
		} else if s != nil {
			t.Error("a store beside an error")
		}
		return err
	}
	stepwise(t, start, acts, call, func(*Store, bool) {})
}

// P8.1: no file at all, and files that are none of the store's.
func TestOpenNothing(t *testing.T) {
	found(t, nil, nil, 1)
	found(t, map[string]string{"head": "a", "index": "b", "index.new": "c"}, nil, 1)
	found(t, map[string]string{seg(1): ""}, nil, 1, syncs(seg(1)))
	found(t, map[string]string{seg(1): records("a", "", "b")}, []string{"a", "", "b"}, 1, syncs(seg(1)))
}

// P8.1: a next manifest that is left over, whatever stands in it.
func TestOpenNextManifest(t *testing.T) {
	one, two := records("one"), records("two")
	for _, left := range []string{"", "torn", number(2), number(3), number(1)} {
		found(t, map[string]string{"manifest.new": left}, nil, 1, drops("manifest.new"))
		found(t, map[string]string{"manifest.new": left, seg(1): one, seg(2): two}, []string{"one"}, 1,
			drops("manifest.new"), syncs(seg(1)), drops(seg(2)))
		found(t, map[string]string{"manifest.new": left, "manifest": number(2), seg(1): one, seg(2): two}, []string{"one", "two"}, 2,
			drops("manifest.new"), syncs(seg(2)))
	}
	// What a manifest's making is left with doesn't stand in the way of the next one.
	d := files(t, 1000, map[string]string{"manifest.new": number(7)[:5], seg(1): records(text(50, 'a'))})
	s := opened(t, d, 64)
	done(t, s.Append(rows(text(50, 'b'))...))
	holds(t, opened(t, d, 64), []string{text(50, 'a'), text(50, 'b')}, 2, 2, nil)
}

// P8.1: the next manifest is dropped ahead of asking the manifest.
func TestOpenCorruptBehindDrop(t *testing.T) {
	d := files(t, 100, map[string]string{"manifest.new": "left", "manifest": "torn"})
	if s, err := Open(d, 64); s != nil || err != api.ErrCorrupt {
		t.Error(s, err)
	}
	is(t, d, `manifest="torn"/4 `)
	d = files(t, 100, map[string]string{"manifest.new": "left", "manifest": "torn"})
	done(t, d.Arm(0))
	if s, err := Open(d, 64); s != nil || err != api.ErrDown || !d.Down() {
		t.Error(s, err)
	}
}

// P8.1: manifests that are none.
func TestOpenManifest(t *testing.T) {
	segments := map[string]string{seg(1): records("one"), seg(2): records("two")}
	with := func(manifest string) map[string]string {
		out := maps.Clone(segments)
		out["manifest"] = manifest
		return out
	}
	found(t, with(number(1)), []string{"one"}, 1, syncs(seg(1)), drops(seg(2)))
	found(t, with(number(2)), []string{"one", "two"}, 2, syncs(seg(2)))
	found(t, map[string]string{"manifest": number(1)}, nil, 1)
	two := number(2)
	var bad []string
	for n := range two {
		bad = append(bad, two[:n])
		turned := []byte(two)
		turned[n] ^= 1
		bad = append(bad, string(turned))
	}
	bad = append(bad,
		two+"\x00", two+"torn at its end", two+two, number(1)+two, two+records(""), records("")+two, "\x00"+two,
		records(""), records("\x02"), records("\x02\x00"), records("\x02\x00\x00"), records("\x02\x00\x00\x00\x00"), records("\x02\x00\x00\x00\x00\x00\x00\x00"),
		records("")+"\x02\x00\x00\x00", records("\x00\x00\x00\x02"), records(records("\x02\x00\x00\x00")),
		number(0), number(4), number(1<<8+2), number(1<<16+2), number(1<<20), number(1<<20+1), number(1<<20+2), number(1<<24+2), number(1<<31), number(1<<31+2), number(math.MaxUint32))
	for _, manifest := range bad {
		d := files(t, 1000, with(manifest))
		corrupt(t, d)
		done(t, d.Arm(0))
		corrupt(t, d)
		dark(t, d)
		same(t, d, api.ErrDown, func() error { _, err := Open(d, 64); return err })
	}
	found(t, with(number(3)), []string{"one", "two"}, 3)
}

// P8.1: as many segments as there may be; there is no next one then.
func TestOpenMostSegments(t *testing.T) {
	if testing.Short() {
		t.Skip("a million files")
	}
	const last = 1 << 20
	d := files(t, 1000, map[string]string{"manifest": number(last)})
	for n := 1; n < last; n++ {
		done(t, d.Append(seg(n), nil))
	}
	s := opened(t, d, 64)
	holds(t, s, nil, 0, last, nil)
	one := text(50, 'a')
	done(t, s.Append([]byte(one)))
	done(t, s.Sync())
	steps, used := d.Steps(), d.Used()
	if err := s.Append([]byte("b"), []byte(one)); err != api.ErrFull || d.Steps() != steps || d.Used() != used {
		t.Error(err)
	}
	holds(t, s, []string{one}, 1, last, api.ErrFull)
	holds(t, opened(t, d, 64), []string{one}, 1, last, nil)

	done(t, d.Drop("manifest"))
	done(t, d.Append("manifest", []byte(number(last+1))))
	if s, err := Open(d, 64); s != nil || err != api.ErrCorrupt {
		t.Error(err)
	}
	if b, err := d.Read(seg(last)); string(b) != records(one) || err != nil {
		t.Error(b, err)
	}
}

// whole is how many records of payloads are whole ahead of a cut, and how far they go.
func whole(payloads []string, cut int) (int, int) {
	n := 0
	for n < len(payloads) && len(records(payloads[:n+1]...)) <= cut {
		n++
	}
	return n, len(records(payloads[:n]...))
}

// P8.1: a segment ahead of the last one must be there, and whole.
func TestOpenAhead(t *testing.T) {
	parts := [][]string{{"one", "two"}, {text(90, 'x')}, {"", "three"}, {"four"}}
	texts := map[string]string{"manifest": number(4)}
	for i, part := range parts {
		texts[seg(i+1)] = records(part...)
	}
	found(t, texts, slices.Concat(parts...), 4, syncs(seg(4)))
	for i, part := range parts[:3] {
		missing := maps.Clone(texts)
		delete(missing, seg(i+1))
		corrupt(t, files(t, 1000, missing))

		with := func(row string) map[string]string {
			out := maps.Clone(texts)
			out[seg(i+1)] = row
			return out
		}
		row := records(part...)
		for cut := range len(row) {
			if n, end := whole(part, cut); end == cut {
				found(t, with(row[:cut]), slices.Concat(slices.Concat(parts[:i]...), part[:n], slices.Concat(parts[i+1:]...)), 4, syncs(seg(4)))
			} else {
				corrupt(t, files(t, 1000, with(row[:cut])))
			}
			turned := []byte(row)
			turned[cut] ^= 4
			corrupt(t, files(t, 1000, with(string(turned))))
		}
		for _, end := range []string{"\x00", "end", string(make([]byte, 8))} {
			corrupt(t, files(t, 1000, with(row+end)))
		}
	}
	bare := map[string]string{"manifest": number(3), seg(1): "", seg(2): "", seg(3): records("a")}
	found(t, bare, []string{"a"}, 3, syncs(seg(3)))

	// Neither the last one nor those behind it are touched then.
	torn := maps.Clone(texts)
	torn[seg(2)], torn[seg(4)], torn[seg(9)] = "torn", records("four")+"torn", "behind"
	corrupt(t, files(t, 1000, torn))
}

// P8.1: a last segment that is missing, or torn anywhere: it is cut off, then synced.
func TestOpenLast(t *testing.T) {
	ahead := map[string]string{"manifest": number(2), seg(1): records("one")}
	found(t, ahead, []string{"one"}, 2)
	all := []string{"two", "", text(70, 'x'), "five"}
	row := records(all...)
	for _, first := range []map[string]string{nil, {"manifest": number(1)}, ahead} {
		var had []string
		last := 1
		if first[seg(1)] != "" {
			had, last = []string{"one"}, 2
		}
		with := func(text string) map[string]string {
			out := map[string]string{seg(last): text}
			maps.Copy(out, first)
			return out
		}
		found(t, with(row), slices.Concat(had, all), last, syncs(seg(last)))
		for cut := range len(row) {
			n, end := whole(all, cut)
			acts := []act{syncs(seg(last))}
			if end < cut {
				acts = []act{cuts(seg(last), end), syncs(seg(last))}
			}
			found(t, with(row[:cut]), slices.Concat(had, all[:n]), last, acts...)
		}
		for at := range len(row) {
			n, end := whole(all, at)
			turned := []byte(row)
			turned[at] ^= 0x10
			found(t, with(string(turned)), slices.Concat(had, all[:n]), last, cuts(seg(last), end), syncs(seg(last)))
		}
	}
}

// P8.1: what is put behind a last segment that was cut off stands right behind its whole records.
func TestAppendBehindCut(t *testing.T) {
	d := files(t, 1000, map[string]string{seg(1): records("one") + "torn end, of many bytes"})
	s := opened(t, d, 64)
	done(t, s.Append(rows(text(45, 'a'))...))
	holds(t, s, []string{"one", text(45, 'a')}, 1, 1, nil)
	if b, err := d.Read(seg(1)); string(b) != records("one", text(45, 'a')) || err != nil {
		t.Error(b, err)
	}
	done(t, s.Append(nil))
	holds(t, s, []string{"one", text(45, 'a'), ""}, 1, 2, nil)

	// Of a segment with a torn end alone nothing is left: it has no bytes.
	d = files(t, 1000, map[string]string{seg(1): "torn"})
	s = opened(t, d, 64)
	done(t, s.Append(rows(text(100, 'a'))...))
	holds(t, s, []string{text(100, 'a')}, 0, 1, nil)
}

// P8.1: Open syncs the last segment even if it is whole, and lets all be sure.
func TestOpenSyncs(t *testing.T) {
	d := empty(t, 100)
	done(t, d.Append(seg(1), []byte(records("one", "two"))))
	holds(t, opened(t, d, 64), []string{"one", "two"}, 2, 1, nil)
	if d.Sure(seg(1)) != 22 || d.Steps() != 2 {
		t.Error(look(d))
	}
	d.Crash(0)
	holds(t, opened(t, d, 64), []string{"one", "two"}, 2, 1, nil)
}

// P8.1: files behind the last segment are dropped, rising, whatever their form; others stay.
func TestOpenBehind(t *testing.T) {
	stay := []string{
		"-", "head", "manifest.old", "manifest.new.old", "manifestnew", "sef-99999999", "seg", "seg.00000009", "seg.", "sega", "seg0", "segs-00000009", "seh-00000009", "tseg-00000009", "s", "zseg-",
		"seg-", "seg--", "seg-.", "seg--00000009", "seg-0", "seg-00", "seg-0000000", "seg-00000000", "seg-00000000z", "seg-000000", "seg-.00000009",
	}
	behind := []string{
		"seg-00000001-", "seg-00000001.", "seg-00000001.new", "seg-000000010", "seg-00000001a", "seg-00000002", "seg-00000003", "seg-0000000a", "seg-0000001", "seg-00000010", "seg-0000002", "seg-01", "seg-1", "seg-10", "seg-2", "seg-99999999", "seg-9999999999", "seg-a", "seg-seg-00000001", "seg-z-.",
	}
	if !slices.IsSorted(behind) {
		t.Fatal(behind)
	}
	texts := map[string]string{seg(1): records("one")}
	acts := []act{syncs(seg(1))}
	for _, name := range stay {
		texts[name] = "stays"
	}
	for _, name := range behind {
		texts[name] = records("behind")
		acts = append(acts, drops(name))
	}
	found(t, texts, []string{"one"}, 1, acts...)

	// Behind a segment that isn't there yet, too; and of a greater number.
	acts = nil
	delete(texts, seg(1))
	for _, name := range behind {
		acts = append(acts, drops(name))
	}
	found(t, texts, nil, 1, acts...)
	found(t, map[string]string{
		"manifest": number(3), seg(1): records("one"), "seg-00000001.bak": "stays", seg(2): records("two"), "seg-000000020": "stays", seg(3): records("three") + "t",
		"seg-00000003.bak": "goes", "seg-000000030": "goes", seg(4): "goes", seg(5): "", "seg-4": "goes",
	}, []string{"one", "two", "three"}, 3,
		cuts(seg(3), 13), syncs(seg(3)), drops("seg-00000003.bak"), drops("seg-000000030"), drops(seg(4)), drops(seg(5)), drops("seg-4"))
}

// P8.1: all that Open may have to do, at once; the power goes at each step.
func TestOpenSteps(t *testing.T) {
	found(t, map[string]string{
		"manifest.new": number(4)[:11], "manifest": number(2), seg(1): records("one", "two"), seg(2): records("three") + records("four")[:9], seg(3): records("five"), "seg-9": "",
	}, []string{"one", "two", "three"}, 2,
		drops("manifest.new"), cuts(seg(2), 13), syncs(seg(2)), drops(seg(3)), drops("seg-9"))
}

// P8.1: power that is off, whatever stands there.
func TestOpenPowerOff(t *testing.T) {
	for _, texts := range []map[string]string{
		nil,
		{seg(1): records("one")},
		{"manifest": "torn"},
		{"manifest": number(5)},
		{"manifest.new": "left"},
		{seg(1): "torn", seg(2): "behind"},
	} {
		d := files(t, 100, texts)
		dark(t, d)
		same(t, d, api.ErrDown, func() error {
			s, err := Open(d, 64)
			if s != nil {
				t.Error("a store beside an error")
			}
			return err
		})
	}
}

// P8.1: what was written with one size is opened with another, which holds from then on.
func TestOtherSize(t *testing.T) {
	d := empty(t, 2000)
	s := opened(t, d, 100)
	want := []string{text(40, 'a'), text(40, 'b'), text(40, 'c')}
	done(t, s.Append(rows(want...)...))
	holds(t, s, want, 0, 2, nil)
	s = opened(t, d, 64)
	want = append(want, "d")
	done(t, s.Append([]byte("d")))
	holds(t, s, want, 3, 2, nil)
	want = append(want, "e")
	done(t, s.Append([]byte("e")))
	holds(t, s, want, 3, 3, nil)
	s = opened(t, d, 1<<20)
	want = append(want, text(500, 'f'))
	done(t, s.Append([]byte(want[5])))
	holds(t, s, want, 5, 3, nil)
	s = opened(t, d, 64)
	want = append(want, "")
	done(t, s.Append(nil))
	holds(t, s, want, 6, 4, nil)
	holds(t, opened(t, d, 64), want, 7, 4, nil)
}

// The number in a manifest has its lowest byte first.
func TestManifestBytes(t *testing.T) {
	d := empty(t, 1<<20)
	s := opened(t, d, 64)
	for range 300 {
		done(t, s.Append(make([]byte, 60)))
	}
	b, err := d.Read("manifest")
	done(t, err)
	if len(b) != 12 || binary.LittleEndian.Uint32(b[8:]) != 300 || string(b) != number(300) {
		t.Error(b)
	}
}
