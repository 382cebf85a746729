package disk

import (
	"fmt"
	"regexp"
	"slices"
	"strings"
	"testing"

	"cachet/api"
)

// plain is the chapter's disk in another way: a row of files as texts, where
// nothing is kept that can be counted. left is -1 where it isn't armed.
type plain struct {
	quota, steps, left int
	gone               bool
	files              []piece
}

type piece struct {
	name, text string
	sure       int
}

func (p *plain) at(name string) int {
	return slices.IndexFunc(p.files, func(f piece) bool { return f.name == name })
}

func (p *plain) used() int {
	n := 0
	for _, f := range p.files {
		n += len(f.text)
	}
	return n
}

func (p *plain) names() []string {
	var out []string
	for _, f := range p.files {
		out = append(out, f.name)
	}
	slices.Sort(out)
	return out
}

var form = regexp.MustCompile(`^[a-z0-9.-]{1,64}$`)

func (p *plain) fault(a act) error {
	at := p.at(a.name)
	switch {
	case a.kind == "append" && !form.MatchString(a.name):
		return api.ErrName
	case a.kind == "append" && p.used()+len(a.text) > p.quota:
		return api.ErrFull
	case a.kind != "append" && at < 0:
		return api.ErrName
	case a.kind == "cut" && (a.n < 0 || a.n > len(p.files[at].text)):
		return api.ErrRange
	case a.kind == "rename" && !form.MatchString(a.to):
		return api.ErrName
	case p.gone:
		return api.ErrDown
	case p.left == 0:
		p.gone = true
		return api.ErrDown
	}
	return nil
}

func (p *plain) step(a act) error {
	if err := p.fault(a); err != nil {
		return err
	}
	p.steps++
	if p.left > 0 {
		p.left--
	}
	at := p.at(a.name)
	switch a.kind {
	case "append":
		if at < 0 {
			p.files = append(p.files, piece{name: a.name})
			at = len(p.files) - 1
		}
		p.files[at].text += a.text
	case "sync":
		p.files[at].sure = len(p.files[at].text)
	case "cut":
		p.files[at].text = p.files[at].text[:a.n]
		p.files[at].sure = min(p.files[at].sure, a.n)
	case "rename":
		f := p.files[at]
		p.files = slices.DeleteFunc(p.files, func(g piece) bool { return g.name == a.name || g.name == a.to })
		p.files = append(p.files, piece{a.to, f.text, len(f.text)})
	case "drop":
		p.files = slices.Delete(p.files, at, at+1)
	}
	return nil
}

func (p *plain) crash(keep int) {
	for i, f := range p.files {
		left := f.text[:f.sure]
		for j := f.sure; j < len(f.text) && j-f.sure < keep; j++ {
			left += f.text[j : j+1]
		}
		p.files[i] = piece{f.name, left, len(left)}
	}
	p.gone, p.left = false, -1
}

// tell is what look tells of a disk.
func (p *plain) tell() string {
	var b strings.Builder
	for _, name := range p.names() {
		f := p.files[p.at(name)]
		fmt.Fprintf(&b, "%s=%q/%d ", name, f.text, f.sure)
	}
	left := p.left
	if p.gone {
		left = 0
	}
	fmt.Fprintf(&b, "used %d free %d steps %d down %t left %d", p.used(), p.quota-p.used(), p.steps, p.gone, left)
	return b.String()
}

// act is a call, as data.
type act struct {
	kind, name, to, text string
	n                    int
}

func (p *plain) do(a act) string {
	at := p.at(a.name)
	switch a.kind {
	case "read":
		if p.gone {
			return fmt.Sprintf("%q %v", "", api.ErrDown)
		}
		if at < 0 {
			return fmt.Sprintf("%q %v", "", api.ErrName)
		}
		return fmt.Sprintf("%q %v", p.files[at].text, error(nil))
	case "sure":
		if at < 0 {
			return "-1"
		}
		return fmt.Sprint(p.files[at].sure)
	case "arm":
		if a.n < 0 {
			return fmt.Sprint(api.ErrRange)
		}
		p.left = a.n
		return fmt.Sprint(error(nil))
	case "crash":
		p.crash(a.n)
		return ""
	}
	return fmt.Sprint(p.step(a))
}

func do(d *Disk, a act) string {
	switch a.kind {
	case "append":
		return fmt.Sprint(d.Append(a.name, []byte(a.text)))
	case "sync":
		return fmt.Sprint(d.Sync(a.name))
	case "cut":
		return fmt.Sprint(d.Cut(a.name, a.n))
	case "rename":
		return fmt.Sprint(d.Rename(a.name, a.to))
	case "drop":
		return fmt.Sprint(d.Drop(a.name))
	case "read":
		b, err := d.Read(a.name)
		return fmt.Sprintf("%q %v", b, err)
	case "sure":
		return fmt.Sprint(d.Sure(a.name))
	case "arm":
		return fmt.Sprint(d.Arm(a.n))
	}
	d.Crash(a.n)
	return ""
}

// look is all that calls tell of a disk; those that change it are asked of copies.
func look(d *Disk) string {
	all := d.Copy()
	all.Crash(1 << 30)
	var b strings.Builder
	for _, name := range d.Names() {
		text, _ := all.Read(name)
		fmt.Fprintf(&b, "%s=%q/%d ", name, text, d.Sure(name))
	}
	fmt.Fprintf(&b, "used %d free %d steps %d down %t left %d", d.Used(), d.Free(), d.Steps(), d.Down(), left(d.Copy()))
	return b.String()
}

// left is how many steps are still done, or -1, if it is more than any act arms with.
func left(d *Disk) int {
	for n := range 50 {
		if d.Append("z", nil) != nil {
			return n
		}
	}
	return -1
}

// pick is numbers below n, without an order.
func pick(seed uint64) func(n int) int {
	x := seed
	return func(n int) int {
		x = x*6364136223846793005 + 1442695040888963407
		return int(x>>33) % n
	}
}

func drawn(next func(n int) int) act {
	kinds := []string{"append", "append", "append", "append", "append", "sync", "sync", "cut", "cut", "rename", "rename", "drop", "read", "sure", "arm", "crash"}
	names := []string{"a", "b", "c-1", "d.0", strings.Repeat("e", 64), "a", "b", "a", "b", "", "A", "a b", strings.Repeat("e", 65)}
	a := act{kind: kinds[next(len(kinds))], name: names[next(len(names))], to: names[next(len(names))], n: next(12) - 1}
	for range next(9) {
		a.text += string(rune('a' + next(26)))
	}
	return a
}

// P6.1: calls in no order, held against the plain disk; that a crash comes by
// itself only now and then lets the power stay gone for a while.
func TestAnyOrder(t *testing.T) {
	seen := map[string]int{}
	for seed := range uint64(400) {
		next := pick(seed)
		quota := []int{0, 1, 10, 25, 60}[next(5)]
		d, err := New(quota)
		if err != nil {
			t.Fatal(err)
		}
		p := &plain{quota: quota, left: -1}
		for i := range 150 {
			a := drawn(next)
			got, want := do(d, a), p.do(a)
			if got != want || look(d) != p.tell() {
				t.Fatalf("seed %d, act %d %+v: %s, not %s\n%s\n%s", seed, i, a, got, want, look(d), p.tell())
			}
			seen[a.kind+" "+want]++
		}
	}
	for _, kind := range []string{"append", "sync", "cut", "rename", "drop"} {
		for _, answer := range []string{"<nil>", "name", "down"} {
			if seen[kind+" "+answer] < 100 {
				t.Error(kind, answer, "was hardly asked")
			}
		}
	}
	if seen["append full"] < 100 || seen["cut range"] < 100 {
		t.Error("hardly full, or out of range")
	}
}
