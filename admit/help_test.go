package admit

import (
	"bytes"
	"crypto/ed25519"
	"crypto/sha256"
	"encoding/hex"
	"fmt"
	"reflect"
	"slices"
	"strings"
	"testing"

	"cachet/api"
	"cachet/bind"
	"cachet/canon"
	"cachet/entry"
)

// Short forms of what submissions are made of. What signs here is the language's own library.

// secret is the key that signs by seed n.
func secret(n int) ed25519.PrivateKey {
	seed := sha256.Sum256([]byte{byte(n), byte(n >> 8)})
	return ed25519.NewKeyFromSeed(seed[:])
}

// key is the public key of seed n.
func key(n int) api.Key { return api.Key(secret(n).Public().(ed25519.PublicKey)) }

// signer is who signs, and by which seed.
type signer struct {
	sig  api.Sig
	seed int
}

// name is an identity that signs by a seed.
func name(s string, seed int) signer { return signer{api.Sig{Identity: s}, seed} }

// own is the key of a seed, which signs by that.
func own(seed int) signer { return as(seed, seed) }

// as is the key of one seed, for which another one signs.
func as(n, seed int) signer { return signer{api.Sig{Key: key(n)}, seed} }

// signed is an entry with its signatures, put in order as an entry asks.
func signed(e api.Entry, all ...signer) api.Entry {
	e.Sigs = nil
	for _, s := range all {
		s.sig.Sig = api.Wide(ed25519.Sign(secret(s.seed), plainSigned(e)))
		e.Sigs = append(e.Sigs, s.sig)
	}
	slices.SortFunc(e.Sigs, func(a, b api.Sig) int { return strings.Compare(plainSigner(a), plainSigner(b)) })
	return e
}

func artifact(n int, all ...signer) api.Entry {
	return signed(api.Entry{Kind: api.Artifact, Digest: api.Sum{byte(n), byte(n >> 8), byte(n >> 16)}}, all...)
}

func envelope(kind, payload string, all ...signer) api.Entry {
	return signed(api.Entry{Kind: api.Envelope, Type: kind, Payload: []byte(payload)}, all...)
}

// about is a statement's text about one subject.
const about = `{"_type":"https://in-toto.io/Statement/v1","subject":[{"name":"s","digest":{"sha256":"` +
	"0123456789abcdef0123456789abcdef0123456789abcdef0123456789abcdef" + `"}}],"predicateType":"p","predicate":{}}`

func statement(payload string, all ...signer) api.Entry {
	return signed(api.Entry{Kind: api.Statement, Payload: []byte(payload)}, all...)
}

// binding is a binding to the key of seed n; one that revokes has no key.
func binding(op int, who string, n int, all ...signer) api.Entry {
	e := api.Entry{Kind: api.Binding, Op: op, Identity: who}
	if op != api.Revoke {
		e.Key = key(n)
	}
	return signed(e, all...)
}

// Bindings that are signed by just those who must: old is the seed of the key that the identity has.

func bindOf(who string, n int) api.Entry { return binding(api.Bind, who, n, own(n)) }

func rotateOf(who string, old, n int) api.Entry {
	return binding(api.Rotate, who, n, name(who, old), own(n))
}

func revokeOf(who string, old int) api.Entry { return binding(api.Revoke, who, 0, name(who, old)) }

// text is the text of an entry, by the language's own library.
func text(e api.Entry) []byte { return []byte(plainText(e)) }

// sized is an entry, signed by eight, whose text has so many bytes.
func sized(size int) api.Entry {
	var all []signer
	for n := range api.MaxSigs {
		all = append(all, own(n))
	}
	e := envelope("t", "", all...)
	// The payload's signs go by fours; the rest hangs on the type.
	e.Payload = bytes.Repeat([]byte("p"), (size-len(text(e)))/4*3)
	e.Type += strings.Repeat("t", size-len(text(e)))
	return signed(e, all...)
}

// What is asked for in tables.
var people = []string{"alice", "bob", "zoe", "", "Alice", "key:"}

const manyKeys = 10 // the keys of seeds 0 to 9 are asked for

// asked asks a submission of a gate to which a plain row was taken, and that this changes nothing.
func asked(t *testing.T, g *Gate, p plain, b []byte, want error) {
	t.Helper()
	plainly, err := p.ask(b)
	if err != want {
		t.Fatalf("%.400q: plainly %v, not %v", b, err, want)
	}
	handed := bytes.Clone(b)
	e, own, err := g.Ask(handed)
	if err != want {
		t.Fatalf("%.400q: Ask %v, not %v", b, err, want)
	}
	if !bytes.Equal(handed, b) {
		t.Fatalf("%.400q: changed", b)
	}
	if want != nil && (!reflect.DeepEqual(e, api.Entry{}) || len(own) > 0) {
		t.Fatalf("%.400q: Ask %.400s, %q beside %v", b, fmt.Sprint(e), own, err)
	}
	if want == nil && (!sameEntry(e, plainly) || !bytes.Equal(own, text(plainly)) || !canon.Is(own)) {
		t.Fatalf("%.400q: Ask %.400s, %q", b, fmt.Sprint(e), own)
	}
	same(t, g, p)
}

// submitted asks a submission, and submits it.
func submitted(t *testing.T, g *Gate, p plain, b []byte, want error) plain {
	t.Helper()
	asked(t, g, p, b, want)
	before := g.Copy()
	handed := bytes.Clone(b)
	at, own, err := g.Submit(handed)
	if err != want || !bytes.Equal(handed, b) {
		t.Fatalf("%.400q: Submit %v, not %v", b, err, want)
	}
	if want != nil {
		if at != 0 || len(own) > 0 {
			t.Fatalf("%.400q: Submit %d, %q beside %v", b, at, own, err)
		}
		same(t, g, p)
		return p
	}
	e, _ := p.ask(b)
	if at != len(p) || !bytes.Equal(own, text(e)) {
		t.Fatalf("%.400q: Submit %d, %q", b, at, own)
	}
	// P18.3: what was answered is taken where its leaf isn't there.
	asked(t, before, p, own, nil)
	if other, again, err := before.Submit(own); other != at || !bytes.Equal(again, own) || err != nil {
		t.Fatalf("%.400q: its text: %d, %q, %v", b, other, again, err)
	}
	p = append(slices.Clone(p), e)
	same(t, g, p)
	same(t, before, p)
	return p
}

// takes takes an entry, of whose signatures none is held.
func takes(t *testing.T, g *Gate, p plain, e api.Entry, want error) plain {
	t.Helper()
	if err := p.take(e); err != want {
		t.Fatalf("%.400s: plainly %v, not %v", fmt.Sprint(e), err, want)
	}
	was := cloneEntry(e)
	at, err := g.Take(e)
	if err != want || !sameEntry(e, was) {
		t.Fatalf("%.400s: Take %v, not %v", fmt.Sprint(e), err, want)
	}
	if want == nil && at != len(p) || want != nil && at != 0 {
		t.Fatalf("%.400s: Take %d, %v", fmt.Sprint(e), at, err)
	}
	if want == nil {
		p = append(slices.Clone(p), was)
	}
	same(t, g, p)
	return p
}

// gateOf is a gate to which entries were submitted, and what was taken.
func gateOf(t *testing.T, all ...api.Entry) (*Gate, plain) {
	t.Helper()
	g, p := New(), plain(nil)
	for _, e := range all {
		p = submitted(t, g, p, text(e), nil)
	}
	return g, p
}

// same asks a gate how many entries it has, which leaves, and what is in its table.
func same(t *testing.T, g *Gate, p plain) {
	t.Helper()
	if g.Len() != len(p) {
		t.Fatalf("Len %d, not %d", g.Len(), len(p))
	}
	for i, e := range p {
		d := plainLeaf(text(e))
		if !g.Has(d) {
			t.Fatalf("it hasn't the leaf of %d", i)
		}
		other := d
		other[i%32] ^= 1 << (i % 8)
		if g.Has(other) || g.Has(sha256.Sum256(text(e))) {
			t.Fatalf("it has what isn't the leaf of %d", i)
		}
	}
	if g.Has(api.Sum{}) {
		t.Fatal("it has noughts")
	}
	sameTable(t, g.Table(), p)
}

func sameTable(t *testing.T, x *bind.Table, p plain) {
	t.Helper()
	if x == nil {
		t.Fatal("no table")
	}
	for _, who := range people {
		if got, want := x.History(who), p.history(who); !slices.Equal(got, want) {
			t.Fatalf("history of %q: %v, not %v", who, got, want)
		}
	}
	for n := range manyKeys {
		if x.Spent(key(n)) != p.spent(key(n)) {
			t.Fatalf("key %d: spent %v", n, x.Spent(key(n)))
		}
	}
}

// cloneEntry is an entry that shares nothing with the one that it is a copy of, with nil for each empty list.
func cloneEntry(e api.Entry) api.Entry {
	e.Payload = append([]byte(nil), e.Payload...)
	e.Sigs = append([]api.Sig(nil), e.Sigs...)
	return e
}

// sameEntry tells whether two are the same field by field; nil and empty lists are.
func sameEntry(a, b api.Entry) bool { return reflect.DeepEqual(cloneEntry(a), cloneEntry(b)) }

// plainSigner is a signer's text.
func plainSigner(s api.Sig) string {
	if s.Identity == "" {
		return "key:" + hex.EncodeToString(s.Key[:])
	}
	return s.Identity
}

// isEntry tells whether an entry is one, as layer 15 does.
func isEntry(e api.Entry) bool { return entry.Check(e) == nil }
