package admit

import (
	"slices"
	"testing"

	"cachet/api"
)

// P18.1 to P18.3: gates beside one another.

func TestNew(t *testing.T) {
	g := New()
	same(t, g, nil)
	h := New()
	p := submitted(t, g, nil, text(bindOf("alice", 1)), nil)
	same(t, h, nil)
	submitted(t, h, nil, text(bindOf("alice", 2)), nil)
	same(t, g, p)
}

// TestAnotherGate has two gates with the same table, each of which took what the other one didn't: what one answered is answered by the other one, too.
func TestAnotherGate(t *testing.T) {
	bound := []api.Entry{bindOf("alice", 1), rotateOf("alice", 1, 2), bindOf("bob", 3), revokeOf("bob", 3)}
	rest := [][]api.Entry{
		{artifact(1, own(9)), artifact(1, name("alice", 1)), statement(about, name("alice", 2)), artifact(2, own(3), name("bob", 3)), artifact(2, own(8))},
		{artifact(3, own(9)), envelope("t", "p", own(1)), artifact(3, name("alice", 2), own(2)), artifact(4, name("bob", 3)), artifact(4, own(8))},
	}
	var gates []*Gate
	var rows []plain
	for _, mine := range rest {
		g, p := New(), plain(nil)
		p = submitted(t, g, p, text(mine[0]), nil)
		for i, e := range bound {
			p = submitted(t, g, p, text(e), nil)
			p = submitted(t, g, p, text(mine[i+1]), nil)
		}
		gates, rows = append(gates, g), append(rows, p)
	}
	for _, who := range people {
		if !slices.Equal(gates[0].Table().History(who), gates[1].Table().History(who)) {
			t.Fatalf("unlike tables: %q", who)
		}
	}
	later := []api.Entry{artifact(5, own(9)), envelope("t", "q", name("alice", 2), own(8)), statement(about+" ", name("alice", 2)), bindOf("bob", 4), rotateOf("alice", 2, 5), revokeOf("alice", 2)}
	later = append(later, rest[0][0], rest[0][2], rest[0][4], rest[1][0], rest[1][2], rest[1][4])
	answers := map[error]int{}
	for _, e := range later {
		for i, g := range gates {
			var want error
			if g.Has(plainLeaf(text(e))) {
				want = api.ErrTwice
			}
			submitted(t, g.Copy(), rows[i], text(e), want)
			answers[want]++
		}
	}
	if answers[nil] != 18 || answers[api.ErrTwice] != 6 {
		t.Error(answers)
	}
}

// TestCopy: each of two goes on without the other.
func TestCopy(t *testing.T) {
	ahead := []api.Entry{artifact(1, own(9)), bindOf("alice", 1), rotateOf("alice", 1, 2), bindOf("bob", 3), artifact(1, name("alice", 2))}
	for n := range len(ahead) + 1 {
		g, p := gateOf(t, ahead[:n]...)
		h, q := g.Copy(), slices.Clone(p)
		if h == g {
			t.Fatal("no other gate")
		}
		same(t, h, q)
		p = submitted(t, g, p, text(artifact(2, own(9))), nil)
		same(t, h, q)
		q = takes(t, h, q, artifact(3, own(9)), nil)
		same(t, g, p)
		p = submitted(t, g, p, text(bindOf("zoe", 4)), nil)
		same(t, h, q)
		q = submitted(t, h, q, text(bindOf("zoe", 5)), nil)
		same(t, g, p)
		p = submitted(t, g, p, text(artifact(4, name("zoe", 5))), api.ErrSig)
		q = submitted(t, h, q, text(artifact(4, name("zoe", 5))), nil)
		same(t, g, p)
		p = submitted(t, g, p, text(artifact(2, own(9))), api.ErrTwice)
		q = submitted(t, h, q, text(artifact(2, own(9))), nil)
		p = submitted(t, g, p, text(revokeOf("zoe", 4)), nil)
		q = takes(t, h, q, revokeOf("zoe", 5), nil)
		p = submitted(t, g, p, text(artifact(5, own(5))), nil)
		submitted(t, h, q, text(artifact(5, own(5))), api.ErrKey)
		same(t, g, p)
		// A copy of a copy, and of a gate that goes on.
		again := g.Copy().Copy()
		submitted(t, again, p, text(bindOf("zoe", 6)), nil)
		same(t, g, p)
	}
}

// TestTable: what comes to a table that was answered doesn't come to the gate, nor the other way.
func TestTable(t *testing.T) {
	g, p := gateOf(t, bindOf("alice", 1), bindOf("bob", 3))
	x, y := g.Table(), g.Table()
	if x == y {
		t.Fatal("one table")
	}
	for i, e := range []api.Entry{rotateOf("alice", 1, 2), revokeOf("bob", 3), bindOf("zoe", 4)} {
		if err := x.Take(e, 100+i); err != nil {
			t.Fatal(err)
		}
	}
	same(t, g, p)
	sameTable(t, y, p)
	p = submitted(t, g, p, text(artifact(1, name("bob", 3))), nil)
	p = submitted(t, g, p, text(artifact(1, name("zoe", 4))), api.ErrKey)
	submitted(t, g, p, text(rotateOf("alice", 1, 5)), nil)
	sameTable(t, y, p)
	if k, ok := x.Bound("alice"); k != key(2) || !ok {
		t.Error(k, ok)
	}
}

func TestHas(t *testing.T) {
	g, p := gateOf(t, artifact(1, own(1)), bindOf("alice", 1))
	for _, e := range p {
		d := plainLeaf(text(e))
		if !g.Has(d) || New().Has(d) {
			t.Error("its leaf")
		}
		for bit := range 256 {
			other := d
			other[bit/8] ^= 1 << (bit % 8)
			if g.Has(other) {
				t.Error(bit)
			}
		}
		for _, b := range loose(t, e) {
			if g.Has(plainLeaf(b)) {
				t.Error("the leaf of another text")
			}
		}
	}
}

// refusesAll asks all calls of a gate that takes nothing, because it is nil, or full.
func refusesAll(t *testing.T, g *Gate, all ...api.Entry) {
	t.Helper()
	for _, e := range all {
		if at, err := g.Take(e); at != 0 || err != api.ErrFull {
			t.Errorf("Take %d, %v", at, err)
		}
		var texts [][]byte
		if isEntry(e) {
			texts = [][]byte{text(e), append(text(e), ' ')}
		}
		for _, b := range append(texts, nil, []byte{}, []byte("{"), []byte("{}"), make([]byte, 5000)) {
			if e, own, err := g.Ask(b); !sameEntry(e, api.Entry{}) || len(own) > 0 || err != api.ErrFull {
				t.Errorf("Ask %v, %q, %v", e, own, err)
			}
			if at, own, err := g.Submit(b); at != 0 || len(own) > 0 || err != api.ErrFull {
				t.Errorf("Submit %d, %q, %v", at, own, err)
			}
		}
	}
}

func TestNil(t *testing.T) {
	var g *Gate
	for range 2 {
		refusesAll(t, g, artifact(1, own(1)), artifact(1, as(1, 2)), artifact(1, name("alice", 1)), bindOf("alice", 1), revokeOf("alice", 1), api.Entry{}, artifact(1))
		if g.Len() != 0 || g.Has(api.Sum{}) || g.Has(plainLeaf(text(artifact(1, own(1))))) || g.Table() != nil || g.Copy() != nil {
			t.Error(g.Len(), g.Has(api.Sum{}), g.Table(), g.Copy())
		}
	}
}

// TestZero: no call of a zero value panics.
func TestZero(t *testing.T) {
	for _, e := range []api.Entry{artifact(1, own(1)), bindOf("alice", 1), {}} {
		for _, g := range []*Gate{{}, (&Gate{}).Copy()} {
			g.Table().History("alice")
			g.Has(api.Sum{})
			g.Ask(text(e))
			g.Take(e)
			g.Submit(text(e))
			g.Table().Copy()
			g.Copy().Len()
		}
	}
}
