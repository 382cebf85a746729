package admit

import (
	"bytes"
	"crypto/ed25519"
	"crypto/sha256"
	"encoding/base64"
	"encoding/hex"
	stdjson "encoding/json"
	"fmt"
	"slices"

	"cachet/api"
	"cachet/bind"
	"cachet/entry"
)

// The chapter's words done another way: all is reckoned from the entries that were taken, in their order. What an entry is, and which one a text is, is asked of layer 15.
type plain []api.Entry

func (p plain) ask(b []byte) (api.Entry, error) {
	if len(p) >= 1<<20 {
		return api.Entry{}, api.ErrFull
	}
	e, err := entry.Parse(b)
	if err != nil {
		return api.Entry{}, err
	}
	if err := p.isNew(e); err != nil {
		return api.Entry{}, err
	}
	if e.Kind == api.Binding && !p.comes(e) {
		return api.Entry{}, api.ErrKey
	}
	wrong := 0
	for _, s := range e.Sigs {
		k, ok := p.holder(e, s)
		if !ok {
			return api.Entry{}, api.ErrKey
		}
		if !ed25519.Verify(k[:], plainSigned(e), s.Sig[:]) {
			wrong++
		}
	}
	if wrong > 0 {
		return api.Entry{}, api.ErrSig
	}
	return e, nil
}

func (p plain) take(e api.Entry) error {
	switch {
	case len(p) >= 1<<20:
		return api.ErrFull
	case !isEntry(e):
		return api.ErrKind
	case p.isNew(e) != nil:
		return p.isNew(e)
	case e.Kind == api.Binding && !p.comes(e):
		return api.ErrKey
	}
	return nil
}

func (p plain) isNew(e api.Entry) error {
	own := text(e)
	if len(own) > 4096 {
		return api.ErrSize
	}
	if slices.ContainsFunc(p, func(x api.Entry) bool { return bytes.Equal(text(x), own) }) {
		return api.ErrTwice
	}
	return nil
}

// history is what a table tells of an identity: each change at the place of its binding.
func (p plain) history(who string) []bind.Change {
	var out []bind.Change
	for at, e := range p {
		if e.Kind == api.Binding && e.Identity == who {
			out = append(out, bind.Change{At: at, Has: e.Op != api.Revoke, Key: e.Key})
		}
	}
	return out
}

// now is the key that an identity has.
func (p plain) now(who string) (k api.Key, ok bool) {
	for _, c := range p.history(who) {
		k, ok = c.Key, c.Has
	}
	return k, ok
}

// given is the place of the binding that gave a key to an identity; -1, if none did.
func (p plain) given(k api.Key) int {
	return slices.IndexFunc(p, func(e api.Entry) bool { return e.Kind == api.Binding && e.Op != api.Revoke && e.Key == k })
}

// spent tells whether the identity to which a key was given had a change behind that.
func (p plain) spent(k api.Key) bool {
	at := p.given(k)
	if at < 0 {
		return false
	}
	all := p.history(p[at].Identity)
	return all[len(all)-1].At > at
}

// comes tells whether a binding may come, and is signed by just those who must.
func (p plain) comes(e api.Entry) bool {
	_, has := p.now(e.Identity)
	fresh := p.given(e.Key) < 0
	byKey := "key:" + hex.EncodeToString(e.Key[:])
	var by []string
	for _, s := range e.Sigs {
		by = append(by, plainSigner(s))
	}
	one := func(want string) bool { return slices.Equal(by, []string{want}) }
	both := len(by) == 2 && slices.Contains(by, e.Identity) && slices.Contains(by, byKey)
	switch e.Op {
	case api.Bind:
		return !has && fresh && one(byKey)
	case api.Rotate:
		return has && fresh && both
	default:
		return has && one(e.Identity)
	}
}

// holder is the key by which a signature of an entry is held.
func (p plain) holder(e api.Entry, s api.Sig) (api.Key, bool) {
	switch {
	case s.Identity != "":
		return p.now(s.Identity)
	case e.Kind == api.Binding && s.Key == e.Key:
		return e.Key, true
	}
	return s.Key, !p.spent(s.Key)
}

// plainValue is what the library makes a text of, without signatures. It sorts the names of a map by their bytes.
func plainValue(e api.Entry) map[string]any {
	m := map[string]any{"kind": []string{"", "artifact", "envelope", "statement", "binding"}[e.Kind]}
	switch e.Kind {
	case api.Artifact:
		m["digest"] = hex.EncodeToString(e.Digest[:])
	case api.Envelope:
		m["type"] = e.Type
		m["payload"] = base64.StdEncoding.EncodeToString(e.Payload)
	case api.Statement:
		m["payload"] = base64.StdEncoding.EncodeToString(e.Payload)
	case api.Binding:
		m["identity"] = e.Identity
		m["op"] = []string{"", "bind", "rotate", "revoke"}[e.Op]
		if e.Op != api.Revoke {
			m["key"] = hex.EncodeToString(e.Key[:])
		}
	}
	return m
}

func plainJSON(v any) string {
	var b bytes.Buffer
	to := stdjson.NewEncoder(&b)
	to.SetEscapeHTML(false)
	if err := to.Encode(v); err != nil {
		panic(err)
	}
	return string(bytes.TrimSuffix(b.Bytes(), []byte("\n")))
}

// plainText is the text of an entry, whatever its size.
func plainText(e api.Entry) string {
	m := plainValue(e)
	sigs := []any{}
	for _, s := range e.Sigs {
		sigs = append(sigs, map[string]any{"by": plainSigner(s), "sig": base64.StdEncoding.EncodeToString(s.Sig[:])})
	}
	m["sigs"] = sigs
	return plainJSON(m)
}

// plainSigned is what is signed of an entry.
func plainSigned(e api.Entry) []byte {
	kind, payload := "", ""
	switch e.Kind {
	case api.Artifact:
		kind, payload = "cachet/artifact", string(e.Digest[:])
	case api.Envelope:
		kind, payload = e.Type, string(e.Payload)
	case api.Statement:
		kind, payload = "application/vnd.in-toto+json", string(e.Payload)
	case api.Binding:
		kind, payload = "cachet/binding", plainJSON(plainValue(e))
	}
	return fmt.Appendf(nil, "DSSEv1 %d %s %d %s", len(kind), kind, len(payload), payload)
}

// plainLeaf is the digest of a text as a leaf, by the library.
func plainLeaf(text []byte) api.Sum { return sha256.Sum256(append([]byte{0}, text...)) }
