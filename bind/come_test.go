package bind

import (
	"slices"
	"strings"
	"testing"

	"cachet/api"
)

// P17.1 and P17.2: which bindings may come, and who must sign them.

func TestExample(t *testing.T) {
	x, r := tableOf(t, bindOf("alice", 1), rotateOf("alice", 2))
	if !x.Spent(key(1)) || x.Spent(key(2)) {
		t.Error(x.Spent(key(1)), x.Spent(key(2)))
	}
	if k, ok := x.Bound("alice"); k != key(2) || !ok {
		t.Error(k, ok)
	}
	if _, err := x.Key(byKey(1)); err != api.ErrKey {
		t.Error(err)
	}
	refused(t, x, r, api.ErrKey, bindOf("bob", 1), bindOf("alice", 1), rotateOf("alice", 1))
}

func TestNobodyWasBound(t *testing.T) {
	x := New()
	same(t, x, nil)
	refused(t, x, nil, api.ErrKey, rotateOf("alice", 1), rotateOf("alice", 0), revokeOf("alice"))
	taken(t, x, nil, bindOf("alice", 1), 0)
}

// TestMayCome has identities that have a key, that had one, and that never had one, and keys of each sort.
func TestMayCome(t *testing.T) {
	// alice has 2 now, and had 1; bob had 3, which is revoked; zoe has 4. Key 5 was never bound.
	all := []api.Entry{bindOf("alice", 1), rotateOf("alice", 2), bindOf("bob", 3), revokeOf("bob"), bindOf("zoe", 4)}
	for name, has := range map[string]bool{"alice": true, "bob": false, "zoe": true, "a": false} {
		for k := range 7 {
			fresh := k == 0 || k > 4
			x, r := tableOf(t, all...)
			may(t, x.Copy(), r, !has && fresh, bindOf(name, k))
			may(t, x.Copy(), r, has && fresh, rotateOf(name, k))
			may(t, x.Copy(), r, has, revokeOf(name))
		}
	}
}

func may(t *testing.T, x *Table, r row, want bool, e api.Entry) {
	t.Helper()
	if want {
		taken(t, x, r, e, 100)
	} else {
		refused(t, x, r, api.ErrKey, e)
	}
}

// TestBindsAgain has an identity that was revoked.
func TestBindsAgain(t *testing.T) {
	x, r := tableOf(t, bindOf("alice", 1), revokeOf("alice"))
	refused(t, x, r, api.ErrKey, bindOf("alice", 1), rotateOf("alice", 1), rotateOf("alice", 2), revokeOf("alice"), bindOf("bob", 1))
	r = taken(t, x, r, bindOf("alice", 2), 30)
	refused(t, x, r, api.ErrKey, bindOf("alice", 1), bindOf("alice", 2), bindOf("alice", 3), rotateOf("alice", 1), rotateOf("alice", 2))
	r = taken(t, x, r, rotateOf("alice", 3), 40)
	r = taken(t, x, r, revokeOf("alice"), 50)
	refused(t, x, r, api.ErrKey, bindOf("alice", 1), bindOf("alice", 2), bindOf("alice", 3))
	r = taken(t, x, r, bindOf("bob", 4), 60)
	taken(t, x, r, bindOf("alice", 5), 70)
}

// TestKeyOfNoughts: it is a key like others.
func TestKeyOfNoughts(t *testing.T) {
	x, r := tableOf(t, bindOf("alice", 0))
	if k, ok := x.Bound("alice"); k != (api.Key{}) || !ok {
		t.Error(k, ok)
	}
	refused(t, x, r, api.ErrKey, bindOf("bob", 0), rotateOf("alice", 0))
	r = taken(t, x, r, revokeOf("alice"), 1)
	if !x.Spent(api.Key{}) {
		t.Error("it isn't spent")
	}
	refused(t, x, r, api.ErrKey, bindOf("bob", 0), bindOf("alice", 0))
	// A revoked identity has no key, though that tells noughts.
	taken(t, x, r, bindOf("alice", 1), 2)
}

// TestWholeNames: identities and keys count whole.
func TestWholeNames(t *testing.T) {
	long := strings.Repeat("a", 64)
	x, r := tableOf(t, bindOf("a", 1), bindOf("alice", 2), bindOf(long, 3), bindOf("alice.", 4), bindOf("alic", 5), bindOf("key", 6), bindOf(".", 7))
	e := bindOf("zoe", 0)
	for _, k := range []api.Key{{1}, {31: 1}, {1, 1, 31: 1}, {1, 30: 1, 31: 1}, {2, 31: 1}, {1, 31: 2}} {
		e.Key, e.Sigs[0].Key = k, k
		taken(t, x.Copy(), r, e, 0)
	}
	refused(t, x, r, api.ErrKey, rotateOf("alice-", 9), revokeOf("aa"), revokeOf(long[1:]))
}

// subsets are all rows of some signers, in order.
func subsets(all []api.Sig) [][]api.Sig {
	out := [][]api.Sig{nil}
	for _, s := range all {
		for _, part := range out {
			out = append(out, append(slices.Clone(part), s))
		}
	}
	return out
}

// TestSigners has each binding signed by all rows of those who might: the identity, another one, the new key, the one that the identity has, the one that it had, and one of nobody.
func TestSigners(t *testing.T) {
	for _, name := range []string{"alice", "zoe", "-", "kez"} { // ahead of keys' texts, and behind them
		signers := []api.Sig{byName(name), byName("bob"), byKey(1), byKey(2), byKey(3), byKey(9)}
		bound := []api.Entry{bindOf("bob", 4), bindOf(name, 1), rotateOf(name, 2)}
		for _, c := range []struct {
			ahead []api.Entry
			e     api.Entry
			must  []api.Sig
		}{
			{bound[:1], unsigned(api.Bind, name, 3), []api.Sig{byKey(3)}},
			{append(bound[:3:3], revokeOf(name)), unsigned(api.Bind, name, 3), []api.Sig{byKey(3)}},
			{bound, unsigned(api.Rotate, name, 3), []api.Sig{byName(name), byKey(3)}},
			{bound, unsigned(api.Revoke, name, 0), []api.Sig{byName(name)}},
		} {
			right := signedBy(c.e, c.must...)
			x, r := tableOf(t, c.ahead...)
			n := 0
			for _, sigs := range subsets(signers) {
				e := signedBy(c.e, sigs...)
				switch {
				case len(sigs) == 0:
					refused(t, x, r, api.ErrKind, e)
				case slices.Equal(e.Sigs, right.Sigs):
					n++
					taken(t, x.Copy(), r, e, 100)
				default:
					refused(t, x, r, api.ErrKey, e)
				}
			}
			if n != 1 {
				t.Error(n)
			}
		}
	}
}

// TestSignedByOldKeys: the key that an identity has or had signs no binding in its name.
func TestSignedByOldKeys(t *testing.T) {
	x, r := tableOf(t, bindOf("alice", 1), rotateOf("alice", 2))
	for _, old := range []int{1, 2} {
		refused(t, x, r, api.ErrKey,
			signedBy(unsigned(api.Rotate, "alice", 3), byKey(old)),
			signedBy(unsigned(api.Rotate, "alice", 3), byKey(old), byKey(3)),
			signedBy(unsigned(api.Rotate, "alice", 3), byName("alice"), byKey(old)),
			signedBy(unsigned(api.Rotate, "alice", 3), byName("alice"), byKey(3), byKey(old)),
			signedBy(unsigned(api.Revoke, "alice", 0), byKey(old)),
			signedBy(unsigned(api.Revoke, "alice", 0), byName("alice"), byKey(old)),
			signedBy(unsigned(api.Bind, "bob", 3), byKey(old)),
			signedBy(unsigned(api.Bind, "bob", 3), byKey(old), byKey(3)),
		)
	}
}

// TestManySigners: eight are none too many for an entry, but for a binding.
func TestManySigners(t *testing.T) {
	var more []api.Sig
	for _, s := range "bcdefgh" {
		more = append(more, byName(string(s)))
	}
	x, r := tableOf(t, bindOf("alice", 1))
	refused(t, x, r, api.ErrKey,
		signedBy(unsigned(api.Bind, "bob", 2), append(more[:7:7], byKey(2))...),
		signedBy(unsigned(api.Rotate, "alice", 2), append(more[:6:6], byName("alice"), byKey(2))...),
		signedBy(unsigned(api.Revoke, "alice", 0), append(more[:7:7], byName("alice"))...),
	)
	refused(t, x, r, api.ErrKind, signedBy(unsigned(api.Bind, "bob", 2), append(more, byKey(2), byKey(3))...))
}

// TestSigBytes: no layer here holds a signature, so that its bytes don't matter.
func TestSigBytes(t *testing.T) {
	for _, w := range []api.Wide{{}, {1}, {63: 255}} {
		x, r := New(), row(nil)
		for i, e := range []api.Entry{bindOf("alice", 1), rotateOf("alice", 2), revokeOf("alice")} {
			for n := range e.Sigs {
				e.Sigs[n].Sig = w
			}
			r = taken(t, x, r, e, i)
		}
	}
}

// TestOtherKinds has what is no binding, and what is no entry.
func TestOtherKinds(t *testing.T) {
	x, r := tableOf(t, bindOf("alice", 1), bindOf("bob", 2), revokeOf("bob"))
	const about = `{"_type":"https://in-toto.io/Statement/v1","subject":[{"name":"s","digest":{"sha256":"` +
		"0123456789abcdef0123456789abcdef0123456789abcdef0123456789abcdef" + `"}}],"predicateType":"p","predicate":{}}`
	for _, sigs := range [][]api.Sig{{byName("alice")}, {byKey(3)}, {byName("alice"), byKey(3)}} {
		refused(t, x, r, api.ErrKind,
			api.Entry{Kind: api.Artifact, Digest: api.Sum{1}, Sigs: sigs},
			api.Entry{Kind: api.Envelope, Type: "t", Payload: []byte("p"), Sigs: sigs},
			api.Entry{Kind: api.Statement, Payload: []byte(about), Sigs: sigs},
		)
	}
	refused(t, x, r, api.ErrKind, api.Entry{}, api.Entry{Kind: api.Binding}, api.Entry{Kind: api.Binding, Sigs: []api.Sig{byName("alice")}})
	for _, e := range []api.Entry{bindOf("zoe", 3), rotateOf("alice", 3), revokeOf("alice"), bindOf("zoe", 1), revokeOf("zoe")} {
		refused(t, x, r, api.ErrKind, spoilt(e)...)
	}
	taken(t, x, r, bindOf("zoe", 3), 100)
}

// spoilt is a binding with one fault each, by which it is no entry.
func spoilt(e api.Entry) []api.Entry {
	var out []api.Entry
	for _, spoil := range []func(*api.Entry){
		func(e *api.Entry) { e.Kind = 0 },
		func(e *api.Entry) { e.Kind = 5 },
		func(e *api.Entry) { e.Kind = api.Artifact },
		func(e *api.Entry) { e.Kind += 1 << 32 },
		func(e *api.Entry) { e.Op = 0 },
		func(e *api.Entry) { e.Op = 4 },
		func(e *api.Entry) { e.Op += 1 << 32 },
		func(e *api.Entry) { e.Op = -e.Op },
		func(e *api.Entry) { e.Identity = "" },
		func(e *api.Entry) { e.Identity = "Alice" },
		func(e *api.Entry) { e.Identity = strings.Repeat("a", 65) },
		func(e *api.Entry) { e.Digest[0]++ },
		func(e *api.Entry) { e.Type = "t" },
		func(e *api.Entry) { e.Payload = []byte("p") },
		func(e *api.Entry) { e.Sigs = nil },
		func(e *api.Entry) { e.Sigs = []api.Sig{e.Sigs[0], e.Sigs[0]} },
		func(e *api.Entry) { e.Sigs = []api.Sig{{Identity: "alice", Key: key(3)}} },
		func(e *api.Entry) { e.Sigs = []api.Sig{byName("zoe"), byName("alice")} },
		func(e *api.Entry) { e.Sigs = []api.Sig{byName("alice"), byName("A")} },
		func(e *api.Entry) { slices.Reverse(e.Sigs); e.Sigs = append(e.Sigs, e.Sigs[0]) },
	} {
		other := signedBy(e, e.Sigs...)
		spoil(&other)
		out = append(out, other)
	}
	if e.Op == api.Revoke {
		e.Key = key(3)
		out = append(out, e)
	}
	return out
}
