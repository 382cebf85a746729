package admit

import (
	"testing"

	"cachet/api"
	"cachet/bind"
)

// P18.1 and P18.2: 2^20 entries are as many as are taken.

const most = 1 << 20

// madeUp is a leaf of no entry.
func madeUp(n int) api.Sum { return api.Sum{byte(n), byte(n >> 8), byte(n >> 16), 31: 1} }

// nearly is a gate into which so many leaves were put by hand, behind those of some entries.
func nearly(t *testing.T, many int, all ...api.Entry) *Gate {
	t.Helper()
	g, _ := gateOf(t, all...)
	for n := range many - g.Len() {
		g.leaves[madeUp(n)] = struct{}{}
	}
	if g.Len() != many {
		t.Fatal(g.Len())
	}
	return g
}

// TestFull has the last entry taken, by each way, and asks for more.
func TestFull(t *testing.T) {
	there := []api.Entry{bindOf("alice", 1), artifact(1, own(2))}
	last := nearly(t, most-1, there...)
	for _, e := range []api.Entry{artifact(2, own(2)), artifact(2, name("alice", 1)), rotateOf("alice", 1, 3), revokeOf("alice", 1)} {
		g, h := last.Copy(), last.Copy()
		if err := firstErr(g.Ask(text(there[1]))); err != api.ErrTwice {
			t.Error(err)
		}
		if at, own, err := g.Submit(text(e)); at != most-1 || string(own) != plainText(e) || err != nil {
			t.Fatal(at, err)
		}
		if at, err := h.Take(e); at != most-1 || err != nil {
			t.Fatal(at, err)
		}
		for _, x := range []*Gate{g, h, g.Copy()} {
			isFull(t, x, append(there, e))
		}
	}
	if last.Len() != most-1 {
		t.Error(last.Len())
	}
}

func firstErr(_ api.Entry, _ []byte, err error) error { return err }

// isFull asks a full gate, into which an entry came last; what it holds stays as it is.
func isFull(t *testing.T, g *Gate, there []api.Entry) {
	t.Helper()
	e := there[len(there)-1]
	want := []bind.Change{{At: 0, Has: true, Key: key(1)}}
	if e.Kind == api.Binding {
		want = append(want, bind.Change{At: most - 1, Has: e.Op == api.Rotate, Key: e.Key})
	}
	all := append([]api.Entry{artifact(3, own(2)), artifact(3, as(2, 3)), artifact(3, name("bob", 1)), bindOf("bob", 5), bindOf("alice", 5), {}, artifact(1), sized(4097)}, there...)
	for range 2 {
		refusesAll(t, g, all...)
		if g.Len() != most || g.Has(plainLeaf(text(all[0]))) {
			t.Error(g.Len())
		}
		for _, e := range there {
			if !g.Has(plainLeaf(text(e))) {
				t.Error("a leaf is gone")
			}
		}
		if got := g.Table().History("alice"); len(got) != len(want) || got[len(got)-1] != want[len(want)-1] || got[0] != want[0] {
			t.Error(got)
		}
		if g.Table().History("bob") != nil {
			t.Error("bob")
		}
	}
}

// TestFullByTake takes as many entries as there may be, and more.
func TestFullByTake(t *testing.T) {
	if testing.Short() {
		t.Skip("takes seconds")
	}
	g := New()
	e := bindOf("alice", 1)
	if at, err := g.Take(e); at != 0 || err != nil {
		t.Fatal(at, err)
	}
	there := []api.Entry{e}
	// No signature is held, so that one serves all.
	e = artifact(0, own(2))
	for n := 1; n < most; n++ {
		e.Digest = api.Sum{byte(n), byte(n >> 8), byte(n >> 16)}
		if at, err := g.Take(e); at != n || err != nil {
			t.Fatal(n, at, err)
		}
	}
	isFull(t, g, append(there, e))
}
