package admit

import (
	"bytes"
	"testing"

	"cachet/api"
)

// P18.1: which error is answered where several hold, in the order of the chapter's sentence: form, size, kind; twice; key; signature.

// TestTwiceAheadOfKey has entries that are there, and whose keys aren't any more, or never were.
func TestTwiceAheadOfKey(t *testing.T) {
	g, p := gateOf(t, artifact(1, own(1)), bindOf("alice", 1), artifact(1, name("alice", 1)), rotateOf("alice", 1, 2), artifact(2, name("alice", 2)), revokeOf("alice", 2))
	for _, e := range p {
		submitted(t, g, p, text(e), api.ErrTwice)
		takes(t, g, p, e, api.ErrTwice)
		for _, b := range loose(t, e) {
			submitted(t, g, p, b, api.ErrTwice)
		}
	}
	for _, e := range []api.Entry{artifact(3, own(1)), artifact(3, name("alice", 2)), artifact(3, name("nobody", 2))} {
		submitted(t, g, p, text(e), api.ErrKey)
		p = takes(t, g, p, e, nil)
		submitted(t, g, p, text(e), api.ErrTwice)
	}
}

// TestTwiceAheadOfSig has entries that are there though they are wrongly signed.
func TestTwiceAheadOfSig(t *testing.T) {
	g, p := gateOf(t, bindOf("alice", 1))
	for _, e := range []api.Entry{artifact(1, as(5, 6)), artifact(1, name("alice", 6)), envelope("t", "p", own(5), name("alice", 6)), binding(api.Bind, "bob", 5, as(5, 6)), binding(api.Revoke, "alice", 0, name("alice", 6))} {
		submitted(t, g, p, text(e), api.ErrSig)
		p = takes(t, g, p, e, nil)
		submitted(t, g, p, text(e), api.ErrTwice)
	}
	// Neither its key is there nor its signature right.
	e := artifact(2, name("alice", 6))
	submitted(t, g, p, text(e), api.ErrKey)
	p = takes(t, g, p, e, nil)
	submitted(t, g, p, text(e), api.ErrTwice)
}

// TestKeyAheadOfSig: all keys are asked ahead of the first signature, wherever they stand.
func TestKeyAheadOfSig(t *testing.T) {
	g, p := gateOf(t, bindOf("alice", 1), bindOf("zoe", 2), bindOf("bob", 3), rotateOf("zoe", 2, 4))
	for _, by := range [][]signer{
		{name("alice", 9), name("nobody", 9)}, // the wrong signature first
		{name("alice", 9), own(2)},
		{name("zoe", 9), name("a", 9)}, // the missing key first
		{name("zoe", 9), own(2)},
		{name("zoe", 9), as(2, 9)},
		{name("nobody", 9)},
		{as(2, 9)},
		{as(5, 9), as(6, 9), as(7, 9), as(2, 9)},
		{name("alice", 9), name("bob", 9), name("c", 9), name("zoe", 9)},
	} {
		submitted(t, g, p, text(artifact(1, by...)), api.ErrKey)
		submitted(t, g, p, text(statement(about, by...)), api.ErrKey)
	}
	// Bindings that may not come, or are signed by others, and wrongly.
	for _, e := range []api.Entry{
		binding(api.Bind, "alice", 5, as(5, 9)), binding(api.Bind, "nobody", 1, as(1, 9)), binding(api.Bind, "nobody", 2, as(2, 9)), binding(api.Bind, "nobody", 5, as(6, 9)),
		binding(api.Bind, "nobody", 5, as(5, 9), as(6, 9)), binding(api.Rotate, "nobody", 5, name("nobody", 9), as(5, 9)), binding(api.Rotate, "alice", 3, name("alice", 9), as(3, 9)),
		binding(api.Rotate, "alice", 5, name("alice", 9)), binding(api.Rotate, "alice", 5, name("bob", 9), as(5, 9)), binding(api.Revoke, "nobody", 0, name("nobody", 9)),
		binding(api.Revoke, "alice", 0, name("bob", 9)), binding(api.Revoke, "alice", 0, as(1, 9)),
	} {
		submitted(t, g, p, text(e), api.ErrKey)
	}
}

// TestFormAheadOfAll has entries that are there, or whose keys aren't, in texts that are none.
func TestFormAheadOfAll(t *testing.T) {
	g, p := gateOf(t, artifact(1, own(1)), bindOf("alice", 2), revokeOf("alice", 2))
	for _, e := range []api.Entry{p[0], p[2], artifact(2, own(2)), artifact(2, as(1, 9)), revokeOf("alice", 2)} {
		good := text(e)
		submitted(t, g, p, good[1:], api.ErrForm)
		submitted(t, g, p, append(good, '}'), api.ErrForm)
		submitted(t, g, p, append(good, bytes.Repeat([]byte(" "), 4097-len(good))...), api.ErrSize)
		submitted(t, g, p, append(good, bytes.Repeat([]byte("}"), 4097-len(good))...), api.ErrSize)
		submitted(t, g, p, bytes.Replace(text(e), []byte(`"kind"`), []byte(`"Kind"`), 1), api.ErrKind)
		submitted(t, g, p, bytes.Replace(text(e), []byte(`"sigs"`), []byte(`"more":0,"sigs"`), 1), api.ErrKind)
	}
}
