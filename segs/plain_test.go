package segs

import (
	"fmt"
	"math"
	"slices"
	"strings"
	"testing"

	"cachet/api"
	"cachet/disk"
)

// plain is the chapter's store in another way: where its row ends isn't kept,
// but read from the disk each time.
type plain struct {
	d          *disk.Disk
	size       int
	held       []string
	sure, last int
	stuck      error
}

// read is a file's bytes, whether the power is there or not.
func read(d *disk.Disk, name string) (string, bool) {
	lit := d.Copy()
	lit.Crash(math.MaxInt)
	b, err := lit.Read(name)
	return string(b), err == nil
}

// parted is the payloads of a row's whole records, and how far they go.
func parted(row string) (payloads []string, end int) {
	for {
		found := false
		for n := 0; end+8+n <= len(row) && !found; n++ {
			if payload := row[end+8 : end+8+n]; row[end:end+8+n] == records(payload) {
				payloads, end, found = append(payloads, payload), end+8+n, true
			}
		}
		if !found {
			return payloads, end
		}
	}
}

func openPlain(d *disk.Disk, size int) (*plain, error) {
	if d.Down() {
		return nil, api.ErrDown
	}
	p := &plain{d: d, size: size, last: 1}
	if _, ok := read(d, "manifest.new"); ok && d.Drop("manifest.new") != nil {
		return nil, api.ErrDown
	}
	if row, ok := read(d, "manifest"); ok {
		p.last = 0
		for n := 1; n < 1000; n++ {
			if row == number(uint32(n)) {
				p.last = n
			}
		}
		if p.last == 0 {
			return nil, api.ErrCorrupt
		}
	}
	for n := 1; n <= p.last; n++ {
		row, ok := read(d, seg(n))
		payloads, end := parted(row)
		p.held = append(p.held, payloads...)
		switch {
		case n < p.last && (!ok || end < len(row)):
			return nil, api.ErrCorrupt
		case n == p.last && end < len(row) && d.Cut(seg(n), end) != nil:
			return nil, api.ErrDown
		case n == p.last && ok && d.Sync(seg(n)) != nil:
			return nil, api.ErrDown
		}
	}
	for _, name := range d.Names() {
		if strings.HasPrefix(name, "seg-") && strings.Compare(name, seg(p.last)) > 0 && d.Drop(name) != nil {
			return nil, api.ErrDown
		}
	}
	p.sure = len(p.held)
	return p, nil
}

func (p *plain) append(texts []string) error {
	if p.stuck != nil {
		return p.stuck
	}
	row, _ := read(p.d, seg(p.last))
	need, bytes, last := 0, len(row), p.last
	var acts []act
	for _, text := range texts {
		if len(text) > 65536 {
			return api.ErrSize
		}
		n := 8 + len(text)
		if bytes > 0 && bytes+n > p.size {
			acts = append(acts, syncs(seg(last)))
			last, bytes = last+1, 0
			acts = append(acts, begun(uint32(last))...)
		}
		acts = append(acts, puts(seg(last), records(text)))
		need, bytes = need+n, bytes+n
	}
	if last > p.last {
		need += 24
	}
	if need > p.d.Free() {
		p.stuck = api.ErrFull
		return p.stuck
	}
	if p.stuck = p.each(acts); p.stuck == nil {
		p.held, p.last = slices.Concat(p.held, texts), last
	}
	return p.stuck
}

func (p *plain) sync() error {
	if p.stuck != nil {
		return p.stuck
	}
	var acts []act
	if _, ok := read(p.d, seg(p.last)); ok {
		acts = append(acts, syncs(seg(p.last)))
	}
	if p.stuck = p.each(acts); p.stuck == nil {
		p.sure = len(p.held)
	}
	return p.stuck
}

func (p *plain) each(acts []act) error {
	if p.d.Down() {
		return api.ErrDown
	}
	for _, a := range acts {
		if err := a(p.d); err != nil {
			return err
		}
	}
	return nil
}

// drawn is what comes in one Append.
func drawn(next func(n int) int) []string {
	var out []string
	for range next(5) {
		n := []int{0, 1, 5, 20, 24, 30, 48, 56, 57, 90, 150}[next(11)]
		if next(60) == 0 {
			n = 1<<16 + 1
		}
		out = append(out, text(n, 'a'+byte(next(26))))
	}
	return out
}

// meddle does to a disk what may be found there when it is opened.
func meddle(next func(n int) int) act {
	names := []string{"manifest.new", "manifest", seg(1), seg(1), seg(2), seg(3), seg(4), seg(9), "seg-1", "seg-0", "other"}
	name := names[next(len(names))]
	text := []string{"", "torn", records("more"), number(uint32(next(6))), records("")[:7]}[next(5)]
	n := next(40)
	return []act{puts(name, text), puts(name, text), cuts(name, n), drops(name), renames("manifest.new", "manifest")}[next(5)]
}

// P8.1: calls in no order, with all that may happen to the disk, held against
// the plain store on a disk like it. Behind a crash, or what was done to the
// disk by others, the store is opened anew.
func TestAnyOrder(t *testing.T) {
	seen := map[string]int{}
	for seed := range uint64(600) {
		next := pick(seed)
		size := []int{64, 64, 65, 100, 300}[next(5)]
		d := empty(t, []int{0, 60, 150, 400, 1500}[next(5)])
		e := d.Copy()
		s, p := opened(t, d, size), &plain{d: e, size: size, last: 1}
		for i := range 60 {
			kind, got, want := "", error(nil), error(nil)
			switch k := next(24); {
			case k < 11:
				kind = "append"
				come := drawn(next)
				got, want = s.Append(rows(come...)...), p.append(come)
			case k < 15:
				kind = "sync"
				got, want = s.Sync(), p.sync()
			case k < 17:
				kind = "arm"
				n := next(12)
				got, want = d.Arm(n), e.Arm(n)
			case k == 17:
				kind = "other"
				n := next(30)
				got, want = puts("other", text(n, 'o'))(d), puts("other", text(n, 'o'))(e)
			case k == 18:
				kind = "drop"
				got, want = drops("other")(d), drops("other")(e)
			default:
				kind = "open"
				if k > 19 {
					keep := next(80)
					d.Crash(keep)
					e.Crash(keep)
				}
				for range next(3) / 2 * next(4) {
					a := meddle(next)
					a(d)
					a(e)
				}
				s, got = Open(d, size)
				p, want = openPlain(e, size)
				if want != nil {
					p = &plain{stuck: api.ErrState}
				}
			}
			seen[kind+" "+fmt.Sprint(want)]++
			if got != want || look(d) != look(e) {
				t.Fatalf("seed %d, %d %s: %v, not %v\n%s\n%s", seed, i, kind, got, want, look(d), look(e))
			}
			holds(t, s, p.held, p.sure, p.last, p.stuck)
			if t.Failed() {
				t.Fatal(seed, i, kind)
			}
			if s == nil && d.Steps() > 60 {
				break
			}
		}
	}
	for _, kind := range []string{"append <nil>", "append full", "append down", "append size", "append state", "sync <nil>", "sync full", "sync down", "sync state", "open <nil>", "open down", "open corrupt"} {
		if seen[kind] < 50 {
			t.Error(kind, "was hardly asked:", seen[kind])
		}
	}
}
