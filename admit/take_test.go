package admit

import (
	"strings"
	"testing"

	"cachet/api"
)

// P18.1 and P18.2: entries that were asked elsewhere.

// TestTakesUnasked: neither is a signature held nor a signer asked for its key.
func TestTakesUnasked(t *testing.T) {
	g, p := gateOf(t, bindOf("alice", 1), rotateOf("alice", 1, 2), bindOf("bob", 3), revokeOf("bob", 3))
	unsigned := func(s api.Sig) signer { return signer{s, 9} }
	for i, s := range []signer{own(1), own(3), own(2), own(9), as(9, 8), as(2, 8), name("alice", 2), name("alice", 1), name("bob", 3), name("bob", 9), name("nobody", 9), unsigned(api.Sig{}), unsigned(api.Sig{Key: api.Key{2}})} {
		for _, e := range []api.Entry{artifact(i, s), envelope("t", strings.Repeat("p", i), s), statement(about+strings.Repeat(" ", i), s)} {
			p = takes(t, g, p, e, nil)
			p = takes(t, g, p, e, api.ErrTwice)
			submitted(t, g, p, text(e), api.ErrTwice)
			other := changed(e, 0, func(w *api.Wide) { *w = api.Wide{} })
			p = takes(t, g, p, other, nil)
			p = takes(t, g, p, other, api.ErrTwice)
		}
	}
	for _, e := range []api.Entry{binding(api.Rotate, "alice", 5, name("alice", 9), as(5, 9)), binding(api.Revoke, "alice", 0, name("alice", 9)), binding(api.Bind, "bob", 6, as(6, 9))} {
		submitted(t, g, p, text(e), api.ErrSig)
		p = takes(t, g, p, e, nil)
		p = takes(t, g, p, e, api.ErrTwice)
	}
	// What was taken so counts as what was submitted does.
	p = submitted(t, g, p, text(artifact(99, name("bob", 6))), nil)
	submitted(t, g, p, text(artifact(98, name("alice", 5))), api.ErrKey)
}

// spoilt is an entry with one fault each, by which it is none.
func spoilt(e api.Entry) []api.Entry {
	var out []api.Entry
	for _, spoil := range []func(*api.Entry){
		func(e *api.Entry) { e.Kind = 0 },
		func(e *api.Entry) { e.Kind = 5 },
		func(e *api.Entry) { e.Kind = -1 },
		func(e *api.Entry) { e.Kind += 1 << 32 },
		func(e *api.Entry) { e.Op = 4 },
		func(e *api.Entry) { e.Op += 1 << 32 },
		func(e *api.Entry) { e.Identity += "é" },
		func(e *api.Entry) { e.Identity = strings.Repeat("a", 65) },
		func(e *api.Entry) { e.Digest[0]++; e.Type = "t" },
		func(e *api.Entry) { e.Type = "cachet/x" },
		func(e *api.Entry) { e.Payload = make([]byte, 2049) },
		func(e *api.Entry) { e.Sigs = nil },
		func(e *api.Entry) { e.Sigs = e.Sigs[:0] },
		func(e *api.Entry) { e.Sigs = append(e.Sigs, e.Sigs[0]) },
		func(e *api.Entry) { e.Sigs[0].Identity = "Alice" },
		func(e *api.Entry) { e.Sigs[0] = api.Sig{Identity: "alice", Key: key(1)} },
		func(e *api.Entry) { e.Sigs = artifact(1, own(1), own(2)).Sigs; e.Sigs[0] = e.Sigs[1] },
		func(e *api.Entry) { e.Sigs = make([]api.Sig, 9) },
	} {
		other := cloneEntry(e)
		spoil(&other)
		out = append(out, other)
	}
	return out
}

func TestTakesNoneThatIsNone(t *testing.T) {
	g, p := gateOf(t, artifact(1, own(1)), bindOf("alice", 1))
	for _, e := range []api.Entry{artifact(1, own(1)), artifact(2, own(1)), envelope("t", "p", own(1)), statement(about, own(1)), bindOf("bob", 2), rotateOf("alice", 1, 2), revokeOf("alice", 1), bindOf("alice", 1), revokeOf("bob", 1)} {
		for _, other := range spoilt(e) {
			takes(t, g, p, other, api.ErrKind)
			takes(t, New(), nil, other, api.ErrKind)
		}
	}
	for _, e := range []api.Entry{{}, {Kind: api.Artifact}, {Kind: api.Envelope}, {Kind: api.Statement}, {Kind: api.Binding}, statement("{}", own(1)), statement("", own(1)), envelope("", "p", own(1)), binding(0, "alice", 1, own(1))} {
		takes(t, g, p, e, api.ErrKind)
	}
}

// TestTakesBindings has bindings that may not come, or that others sign than must.
func TestTakesBindings(t *testing.T) {
	g, p := gateOf(t, bindOf("alice", 1), rotateOf("alice", 1, 2), bindOf("bob", 3), revokeOf("bob", 3))
	for _, e := range []api.Entry{
		bindOf("alice", 5), bindOf("zoe", 1), bindOf("zoe", 2), bindOf("zoe", 3), anew(bindOf("bob", 3), 3), rotateOf("bob", 3, 5), rotateOf("zoe", 5, 6), rotateOf("alice", 2, 1), rotateOf("alice", 2, 2),
		rotateOf("alice", 2, 3), anew(revokeOf("bob", 3), 3), revokeOf("zoe", 5),
		binding(api.Bind, "zoe", 5, own(6)), binding(api.Bind, "zoe", 5, name("zoe", 5)), binding(api.Bind, "zoe", 5, own(5), own(6)), binding(api.Rotate, "alice", 5, name("alice", 2)),
		binding(api.Rotate, "alice", 5, own(5)), binding(api.Rotate, "alice", 5, own(2), own(5)), binding(api.Revoke, "alice", 0, own(2)), binding(api.Revoke, "alice", 0, name("alice", 2), own(2)),
	} {
		takes(t, g, p, e, api.ErrKey)
		submitted(t, g, p, text(e), api.ErrKey)
	}
	for _, e := range []api.Entry{bindOf("zoe", 5), bindOf("bob", 6), rotateOf("alice", 2, 7), rotateOf("alice", 7, 8), revokeOf("alice", 8), bindOf("alice", 9), revokeOf("bob", 6)} {
		p = takes(t, g, p, e, nil)
	}
	for _, e := range p {
		p = takes(t, g, p, e, api.ErrTwice)
	}
}

// TestTakesAsSubmitted: a gate that takes what another one was submitted is as that one.
func TestTakesAsSubmitted(t *testing.T) {
	g, p := gateOf(t, artifact(1, own(1)), bindOf("alice", 1), envelope("t", "p", name("alice", 1)), rotateOf("alice", 1, 2), statement(about, name("alice", 2), own(2)), revokeOf("alice", 2))
	h, q := New(), plain(nil)
	for _, e := range p {
		q = takes(t, h, q, e, nil)
	}
	for _, x := range []*Gate{g, h} {
		submitted(t, x, p, text(artifact(2, own(2))), api.ErrKey)
		submitted(t, x, p, text(bindOf("bob", 3)), nil)
	}
}
