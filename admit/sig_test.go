package admit

import (
	"bytes"
	"crypto/sha512"
	"encoding/base64"
	"strings"
	"testing"

	"cachet/api"
	"cachet/curve"
	"cachet/entry"
)

// P18.1: signatures, by which keys they are held, and of what.

// changed is an entry whose signature i is changed.
func changed(e api.Entry, i int, change func(*api.Wide)) api.Entry {
	e = cloneEntry(e)
	change(&e.Sigs[i].Sig)
	return e
}

func flip(bit int) func(*api.Wide) {
	return func(w *api.Wide) { w[bit/8] ^= 1 << (bit % 8) }
}

// TestOneSignChanged changes each sign of a signature as it stands in a text.
func TestOneSignChanged(t *testing.T) {
	good := plainText(artifact(1, own(1)))
	sig := artifact(1, own(1)).Sigs[0].Sig
	at := strings.Index(good, base64.StdEncoding.EncodeToString(sig[:]))
	g, p := New(), plain(nil)
	wrong, none := 0, 0
	for i := at; i < at+88; i++ {
		for _, c := range []byte("AQgw-") {
			b := []byte(good)
			if b[i] == c {
				continue
			}
			b[i] = c
			want := api.ErrSig
			if _, err := entry.Parse(b); err != nil {
				want = api.ErrKind
				none++
			} else {
				wrong++
			}
			submitted(t, g, p, b, want)
		}
	}
	if wrong < 300 || none < 88 {
		t.Error(wrong, none)
	}
	submitted(t, g, p, []byte(good), nil)
}

func TestOneBitChanged(t *testing.T) {
	g, p := gateOf(t, bindOf("alice", 4))
	for _, e := range []api.Entry{artifact(1, own(1)), envelope("t", "p", name("alice", 4)), rotateOf("alice", 4, 5)} {
		for bit := 0; bit < 512; bit += 7 {
			submitted(t, g, p, text(changed(e, len(e.Sigs)-1, flip(bit))), api.ErrSig)
		}
	}
}

// TestByAnotherKey has signatures that are right by another key than the signer's.
func TestByAnotherKey(t *testing.T) {
	g, p := gateOf(t, bindOf("alice", 4), bindOf("bob", 5), rotateOf("bob", 5, 6), bindOf("zoe", 7), revokeOf("zoe", 7))
	for _, e := range []api.Entry{
		artifact(1, as(1, 2)), artifact(1, as(1, 4)), artifact(1, name("alice", 1)), artifact(1, name("alice", 6)), artifact(1, name("bob", 4)),
		artifact(1, name("bob", 5)), envelope("t", "p", name("bob", 5)), statement(about, as(2, 1)), artifact(1, as(4, 1)), artifact(1, name("alice", 4), name("bob", 5)),
		artifact(1, as(1, 2), as(2, 1)), artifact(1, name("alice", 6), name("bob", 4)),
	} {
		submitted(t, g, p, text(e), api.ErrSig)
	}
	for _, e := range []api.Entry{artifact(1, own(1)), artifact(1, name("alice", 4)), artifact(1, name("bob", 6)), artifact(1, own(4)), artifact(1, own(6), name("bob", 6)), artifact(1, name("alice", 4), name("bob", 6), own(2))} {
		p = submitted(t, g, p, text(e), nil)
	}
}

// TestOfAnotherEntry has signatures that are right by the signer's key, but of something else.
func TestOfAnotherEntry(t *testing.T) {
	g, p := gateOf(t, bindOf("alice", 4))
	e := artifact(1, own(1))
	digest := string(e.Digest[:])
	for _, other := range []api.Entry{
		artifact(2, own(1)), envelope("x", digest, own(1)), envelope("cachet", "/artifact 32 "+digest, own(1)), envelope("t", plainText(e), own(1)),
		envelope("t", string(plainSigned(e)), own(1)), statement(about, own(1)),
	} {
		for _, pair := range [][2]api.Entry{{e, other}, {other, e}} {
			lying := cloneEntry(pair[0])
			lying.Sigs = pair[1].Sigs
			submitted(t, g, p, text(lying), api.ErrSig)
		}
	}
	// A statement's text may be an envelope's payload; its own type is signed with it.
	const kind = "application/vnd.in-toto+json"
	p = submitted(t, g, p, text(envelope(kind, about, own(1))), nil)
	of := statement(about)
	of.Sigs = envelope(kind, about, own(1)).Sigs
	p = submitted(t, g, p, text(of), nil)
	// What a binding does, whose it is and to which key: all that is signed.
	for _, e := range []api.Entry{bindOf("bob", 5), rotateOf("alice", 4, 5), revokeOf("alice", 4)} {
		for _, op := range []int{api.Bind, api.Rotate, api.Revoke} {
			for _, who := range []string{"alice", "bob", "zoe"} {
				for _, n := range []int{5, 6} {
					other := binding(op, who, n)
					if bytes.Equal(plainSigned(e), plainSigned(other)) {
						continue
					}
					lying := cloneEntry(e)
					for i, s := range e.Sigs {
						seed := 4
						if s.Identity == "" {
							seed = 5
						}
						lying.Sigs[i].Sig = signed(other, own(seed)).Sigs[0].Sig
					}
					submitted(t, g, p, text(lying), api.ErrSig)
				}
			}
		}
	}
}

// TestOneOfSeveralIsWrong has one to eight signers, of whom each one in turn signs wrongly.
func TestOneOfSeveralIsWrong(t *testing.T) {
	g, p := gateOf(t, bindOf("alice", 4), bindOf("zoe", 5))
	all := []signer{name("alice", 4), name("zoe", 5), own(1), own(2), own(3), own(4), own(6), own(7)}
	for many := 1; many <= len(all); many++ {
		e := artifact(1, all[:many]...)
		for i := range many {
			submitted(t, g, p, text(changed(e, i, flip(300))), api.ErrSig)
			submitted(t, g, p, text(changed(e, i, func(w *api.Wide) { *w = api.Wide{} })), api.ErrSig)
			if many > 1 {
				submitted(t, g, p, text(changed(e, i, func(w *api.Wide) { *w = e.Sigs[(i+1)%many].Sig })), api.ErrSig)
			}
		}
		p = submitted(t, g, p, text(e), nil)
	}
}

// TestNoPoint: a key that is no point's text is a key as long as nobody must sign by it.
func TestNoPoint(t *testing.T) {
	g, p := New(), plain(nil)
	none := api.Key{2}
	if _, ok := curve.Of(none); ok {
		t.Fatal("a point")
	}
	e := artifact(1, own(1))
	e.Sigs[0].Key = none
	submitted(t, g, p, text(e), api.ErrSig)
	b := api.Entry{Kind: api.Binding, Op: api.Bind, Identity: "alice", Key: none}
	b.Sigs = []api.Sig{{Key: none, Sig: signed(b, own(1)).Sigs[0].Sig}}
	submitted(t, g, p, text(b), api.ErrSig)
	takes(t, g, p, b, nil)
}

// unlike is another signature of a text by a seed, which is right, too: one that doesn't begin as the seed's own one.
func unlike(seed int, b []byte) api.Wide {
	long := sha512.Sum512(secret(seed).Seed())
	a := api.Key(long[:32])
	a[0] &^= 7
	a[31] = a[31]&^128 | 64
	first, public := curve.Generator().Many(api.Key{9}).Key(), key(seed)
	digest := sha512.Sum512(append(append(first[:], public[:]...), b...))
	h, _ := curve.Residue(digest[:])
	second := curve.Times(h, a, api.Key{9})
	return api.Wide(append(first[:], second[:]...))
}

// anew is an entry, signed by one seed alone, with another right signature.
func anew(e api.Entry, seed int) api.Entry {
	return changed(e, 0, func(w *api.Wide) { *w = unlike(seed, plainSigned(e)) })
}

// TestUnlikeSignatures: an entry with another signature is another entry, however it is signed.
func TestUnlikeSignatures(t *testing.T) {
	g, p := New(), plain(nil)
	for _, e := range []api.Entry{artifact(1, own(1)), envelope("t", "p", own(1))} {
		other := anew(e, 1)
		p = submitted(t, g, p, text(e), nil)
		p = submitted(t, g, p, text(other), nil)
		p = submitted(t, g, p, text(e), api.ErrTwice)
		p = submitted(t, g, p, text(other), api.ErrTwice)
	}
}
