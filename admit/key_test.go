package admit

import (
	"bytes"
	"testing"

	"cachet/api"
	"cachet/bind"
)

// P18.1: whose keys are there, and which bindings may come.

// life is a gate in which alice has key 2, and had 1; bob's key 3 was revoked; zoe has key 4. Nobody was bound to another key.
func life(t *testing.T) (*Gate, plain) {
	t.Helper()
	return gateOf(t, bindOf("alice", 1), rotateOf("alice", 1, 2), bindOf("bob", 3), revokeOf("bob", 3), bindOf("zoe", 4))
}

// TestSigners has signers by keys and by identities of each sort, alone and beside others.
func TestSigners(t *testing.T) {
	base, row := life(t)
	none := name("a", 9) // never had a key
	for _, c := range []struct {
		by   []signer
		want error
	}{
		{[]signer{own(9)}, nil},
		{[]signer{own(2)}, nil},
		{[]signer{own(4)}, nil},
		{[]signer{own(1)}, api.ErrKey},
		{[]signer{own(3)}, api.ErrKey},
		{[]signer{name("alice", 2)}, nil},
		{[]signer{name("zoe", 4)}, nil},
		{[]signer{name("bob", 3)}, api.ErrKey},
		{[]signer{name("bob", 9)}, api.ErrKey},
		{[]signer{none}, api.ErrKey},
		{[]signer{name("key", 9)}, api.ErrKey},
		{[]signer{name("alice", 2), own(2)}, nil},
		{[]signer{name("alice", 2), name("zoe", 4), own(9), own(8)}, nil},
		{[]signer{name("alice", 2), own(1)}, api.ErrKey},
		{[]signer{name("alice", 2), none}, api.ErrKey},
		{[]signer{name("zoe", 4), none}, api.ErrKey},
		{[]signer{own(9), own(3)}, api.ErrKey},
		{[]signer{own(8), own(3)}, api.ErrKey},
		{[]signer{own(9), own(1), own(3), name("bob", 3), none}, api.ErrKey},
	} {
		g, p := base.Copy(), row
		for _, e := range []api.Entry{artifact(1, c.by...), envelope("t", "p", c.by...), statement(about, c.by...)} {
			p = submitted(t, g, p, text(e), c.want)
		}
	}
}

// TestKeysComeAndGo has what is refused now and taken later, and the other way.
func TestKeysComeAndGo(t *testing.T) {
	g, p := New(), plain(nil)
	by := func(n int, s signer) []byte { return text(artifact(n, s)) }
	p = submitted(t, g, p, by(1, name("alice", 1)), api.ErrKey)
	p = submitted(t, g, p, by(1, own(1)), nil)
	p = submitted(t, g, p, text(bindOf("alice", 1)), nil)
	p = submitted(t, g, p, by(1, name("alice", 1)), nil)
	p = submitted(t, g, p, by(2, own(1)), nil)
	p = submitted(t, g, p, text(rotateOf("alice", 1, 2)), nil)
	p = submitted(t, g, p, by(3, own(1)), api.ErrKey)
	p = submitted(t, g, p, by(3, name("alice", 1)), api.ErrSig)
	p = submitted(t, g, p, by(3, name("alice", 2)), nil)
	p = submitted(t, g, p, by(3, own(2)), nil)
	p = submitted(t, g, p, text(revokeOf("alice", 2)), nil)
	for _, s := range []signer{own(1), own(2), name("alice", 1), name("alice", 2)} {
		p = submitted(t, g, p, by(4, s), api.ErrKey)
	}
	p = submitted(t, g, p, text(bindOf("alice", 3)), nil)
	p = submitted(t, g, p, by(4, name("alice", 2)), api.ErrSig)
	p = submitted(t, g, p, by(4, name("alice", 3)), nil)
	submitted(t, g, p, by(4, own(2)), api.ErrKey)
}

// TestMayCome has bindings of identities that have a key, that had one, and that never had one, to keys of each sort. What came already is signed anew, so that it isn't there.
func TestMayCome(t *testing.T) {
	base, row := life(t)
	now := map[string]int{"alice": 2, "bob": 3, "zoe": 4, "a": 9}
	for who, has := range map[string]bool{"alice": true, "bob": false, "zoe": true, "a": false} {
		for n := range 7 {
			fresh := n == 0 || n > 4
			for _, c := range []struct {
				e   api.Entry
				may bool
			}{
				{anew(bindOf(who, n), n), !has && fresh},
				{rotateOf(who, now[who], n), has && fresh},
				{anew(revokeOf(who, now[who]), now[who]), has},
			} {
				g, p := base.Copy(), row
				if c.may {
					p = submitted(t, g, p, text(c.e), nil)
					submitted(t, g, p, text(c.e), api.ErrTwice)
				} else {
					submitted(t, g, p, text(c.e), api.ErrKey)
					takes(t, g, p, c.e, api.ErrKey)
				}
			}
		}
	}
}

// TestBindingsSigners has each binding signed by all rows of those who might, each rightly.
func TestBindingsSigners(t *testing.T) {
	base, row := life(t)
	might := []signer{name("alice", 2), name("zoe", 4), own(2), own(5), own(9)}
	for _, c := range []struct {
		e    api.Entry
		must []signer
	}{
		{binding(api.Bind, "bob", 5), []signer{own(5)}},
		{binding(api.Rotate, "alice", 5), []signer{name("alice", 2), own(5)}},
		{binding(api.Revoke, "alice", 0), []signer{name("alice", 2)}},
	} {
		taken := 0
		for set := 1; set < 1<<len(might); set++ {
			var by []signer
			for i, s := range might {
				if set>>i&1 == 1 {
					by = append(by, s)
				}
			}
			e := signed(c.e, by...)
			g, p := base.Copy(), row
			if bytes.Equal(text(e), text(signed(c.e, c.must...))) {
				submitted(t, g, p, text(e), nil)
				taken++
			} else {
				submitted(t, g, p, text(e), api.ErrKey)
				takes(t, g, p, e, api.ErrKey)
			}
		}
		if taken != 1 {
			t.Error(taken)
		}
	}
}

// TestHeldByWhichKey has bindings signed by just those who must, in whose name another key signs: the new key is held by itself, and the identity by the one that it has, not by the new one.
func TestHeldByWhichKey(t *testing.T) {
	base, row := life(t)
	for _, seed := range []int{0, 1, 2, 3, 4, 5} {
		want := func(right int) error {
			if seed == right {
				return nil
			}
			return api.ErrSig
		}
		for _, c := range []struct {
			e    api.Entry
			want error
		}{
			{binding(api.Bind, "bob", 5, as(5, seed)), want(5)},
			{binding(api.Bind, "a", 5, as(5, seed)), want(5)},
			{binding(api.Rotate, "alice", 5, name("alice", 2), as(5, seed)), want(5)},
			{binding(api.Rotate, "alice", 5, name("alice", seed), own(5)), want(2)},
			{binding(api.Rotate, "zoe", 5, name("zoe", 4), as(5, seed)), want(5)},
			{binding(api.Rotate, "zoe", 5, name("zoe", seed), own(5)), want(4)},
			{binding(api.Rotate, "zoe", 5, name("zoe", seed), as(5, seed)), api.ErrSig},
			{binding(api.Revoke, "alice", 0, name("alice", seed)), want(2)},
			{binding(api.Revoke, "zoe", 0, name("zoe", seed)), want(4)},
		} {
			submitted(t, base.Copy(), row, text(c.e), c.want)
		}
	}
	// Both signatures are right, but each is the other one's.
	for _, who := range []string{"alice", "zoe"} {
		e := rotateOf(who, map[string]int{"alice": 2, "zoe": 4}[who], 5)
		e.Sigs[0].Sig, e.Sigs[1].Sig = e.Sigs[1].Sig, e.Sigs[0].Sig
		submitted(t, base.Copy(), row, text(e), api.ErrSig)
	}
}

// TestKeyUsedAhead: a key may sign, and then be bound.
func TestKeyUsedAhead(t *testing.T) {
	gateOf(t, artifact(1, own(5)), bindOf("alice", 5), artifact(2, own(5)), artifact(2, name("alice", 5)), artifact(3, own(6)), rotateOf("alice", 5, 6), artifact(4, own(6)))
}

// TestPlaces: each entry has the next place, and a binding's change stands at it; what is refused has none.
func TestPlaces(t *testing.T) {
	g, p := New(), plain(nil)
	p = submitted(t, g, p, text(artifact(1, own(9))), nil)
	p = submitted(t, g, p, text(bindOf("alice", 1)), nil)
	p = submitted(t, g, p, text(bindOf("alice", 1)), api.ErrTwice)
	p = submitted(t, g, p, text(bindOf("alice", 2)), api.ErrKey)
	p = submitted(t, g, p, text(artifact(2, as(9, 1))), api.ErrSig)
	p = takes(t, g, p, artifact(2, as(9, 1)), nil)
	p = takes(t, g, p, artifact(2, as(9, 1)), api.ErrTwice)
	p = submitted(t, g, p, text(artifact(2, own(9))), nil)
	p = takes(t, g, p, binding(api.Rotate, "alice", 2, name("alice", 7), as(2, 7)), nil)
	p = submitted(t, g, p, text(artifact(3, name("alice", 2))), nil)
	p = submitted(t, g, p, text(revokeOf("alice", 2)), nil)
	p = submitted(t, g, p, text(bindOf("bob", 3)), nil)
	if len(p) != 8 || g.Len() != 8 {
		t.Fatal(len(p), g.Len())
	}
	x := g.Table()
	for i, want := range []bind.Change{{At: 1, Has: true, Key: key(1)}, {At: 4, Has: true, Key: key(2)}, {At: 6}} {
		if got := x.History("alice"); len(got) != 3 || got[i] != want {
			t.Errorf("%d: %v", i, got)
		}
	}
	if got := x.History("bob"); len(got) != 1 || got[0] != (bind.Change{At: 7, Has: true, Key: key(3)}) {
		t.Error(got)
	}
	for place, n := range []int{0, 1, 1, 1, 2, 2, 0, 0} {
		if k, ok := x.At("alice", place); ok != (n > 0) || ok && k != key(n) {
			t.Error(place, k, ok)
		}
	}
}
