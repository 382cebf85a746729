package keys

import (
	"crypto/sha256"
	"encoding/base64"
	"encoding/hex"
	stdjson "encoding/json"
	"fmt"
	"reflect"
	"regexp"
	"slices"
	"strings"
	"testing"

	"cachet/api"
)

// Short forms of what entries are made of.

// row is so many bytes, which hang on n from the first one on.
func row(n, size int) []byte {
	out := make([]byte, size)
	for i := range out {
		out[i] = byte(n + 7*i)
	}
	return out
}

func key(n int) api.Key { return api.Key(row(n, 32)) }

func digest(n int) api.Sum { return api.Sum(row(n, 32)) }

func wide(n int) api.Wide { return api.Wide(row(n, 64)) }

// figures is the hex of row n, by the library.
func figures(n int) string { return hex.EncodeToString(row(n, 32)) }

// noughts is the hex of 32 bytes 0.
const noughts = "0000000000000000000000000000000000000000000000000000000000000000"

func byName(name string) api.Sig { return api.Sig{Identity: name, Sig: wide(len(name))} }

func byKey(n int) api.Sig { return api.Sig{Key: key(n), Sig: wide(n)} }

func artifact(n int, sigs ...api.Sig) api.Entry {
	return api.Entry{Kind: api.Artifact, Digest: digest(n), Sigs: sigs}
}

func envelope(payload string, sigs ...api.Sig) api.Entry {
	return api.Entry{Kind: api.Envelope, Type: "text/plain", Payload: []byte(payload), Sigs: sigs}
}

func statement(payload string, sigs ...api.Sig) api.Entry {
	return api.Entry{Kind: api.Statement, Payload: []byte(payload), Sigs: sigs}
}

func binding(op int, name string, k api.Key, sigs ...api.Sig) api.Entry {
	return api.Entry{Kind: api.Binding, Op: op, Identity: name, Key: k, Sigs: sigs}
}

// about is a statement's text about subjects with some digests.
func about(digests ...string) string {
	var all []string
	for i, d := range digests {
		all = append(all, fmt.Sprintf(`{"name":"s%d","digest":{"sha256":"%s"}}`, i, d))
	}
	return `{"_type":"https://in-toto.io/Statement/v1","subject":[` + strings.Join(all, ",") + `],"predicateType":"p","predicate":{}}`
}

// hash is the key of a text's digest, by the library.
func hash(text string) string { return fmt.Sprintf("sha256:%x", sha256.Sum256([]byte(text))) }

// names are n signatures by identities, rising.
func names(n int) []api.Sig {
	var out []api.Sig
	for i := range n {
		out = append(out, byName(fmt.Sprintf("signer%d", i)))
	}
	return out
}

// holders are n signatures by keys, rising.
func holders(n int) []api.Sig {
	var out []api.Sig
	for i := range n {
		out = append(out, byKey(20+i))
	}
	return out
}

// both are n signatures, by identities and by keys, rising by their signers' texts.
func both(n int) []api.Sig {
	var out []api.Sig
	for i := range n {
		switch {
		case i < n/3:
			out = append(out, byName(fmt.Sprintf("a%d", i)))
		case i < n-1:
			out = append(out, byKey(i))
		default:
			out = append(out, byName("zoe"))
		}
	}
	return out
}

// entries are some of each kind.
func entries() []api.Entry {
	var all []api.Entry
	for _, sigs := range [][]api.Sig{names(1), holders(1), names(8), holders(8), both(2), both(8)} {
		all = append(all,
			artifact(9, sigs...),
			envelope("hello", sigs...),
			envelope("", sigs...),
			statement(about(figures(1)), sigs...),
			statement(about(figures(2), figures(1), figures(2)), sigs...),
			binding(api.Bind, "bob", key(4), sigs...),
			binding(api.Rotate, "bob", api.Key{}, sigs...),
			binding(api.Revoke, "bob", api.Key{}, sigs...),
		)
	}
	return all
}

// The chapter's words done another way.

var plainKeys = regexp.MustCompile(`\A(?:(?:sha256|key):[0-9a-f]{64}|id:[-a-z0-9._@]{1,64})\z`)

// plainOf is the keys of an entry, which is one.
func plainOf(e api.Entry) []string {
	there := map[string]struct{}{}
	put := func(format string, x any) { there[fmt.Sprintf(format, x)] = struct{}{} }
	for _, s := range e.Sigs {
		if len(s.Identity) > 0 {
			put("id:%s", s.Identity)
		} else {
			put("key:%x", s.Key)
		}
	}
	if e.Kind == api.Artifact {
		put("sha256:%x", e.Digest)
	}
	if e.Kind == api.Envelope || e.Kind == api.Statement {
		put("sha256:%x", sha256.Sum256(e.Payload))
	}
	if e.Kind == api.Statement {
		var text struct {
			Subject []struct{ Digest struct{ Sha256 string } }
		}
		if err := stdjson.Unmarshal(e.Payload, &text); err != nil {
			panic(err)
		}
		for _, s := range text.Subject {
			put("sha256:%s", s.Digest.Sha256)
		}
	}
	if e.Kind == api.Binding {
		put("id:%s", e.Identity)
	}
	if e.Kind == api.Binding && e.Op < 3 {
		put("key:%x", e.Key)
	}
	var out []string
	for k := range there {
		out = append(out, k)
	}
	slices.Sort(out)
	return out
}

// plainText is the text of an entry, which is one, whatever its size: the library sorts the names of a map by their bytes.
func plainText(e api.Entry) string {
	m := map[string]any{"kind": []string{"", "artifact", "envelope", "statement", "binding"}[e.Kind]}
	switch e.Kind {
	case api.Artifact:
		m["digest"] = hex.EncodeToString(e.Digest[:])
	case api.Envelope:
		m["type"] = e.Type
		m["payload"] = base64.StdEncoding.EncodeToString(e.Payload)
	case api.Statement:
		m["payload"] = base64.StdEncoding.EncodeToString(e.Payload)
	case api.Binding:
		m["identity"] = e.Identity
		m["op"] = []string{"", "bind", "rotate", "revoke"}[e.Op]
		if e.Op < 3 {
			m["key"] = hex.EncodeToString(e.Key[:])
		}
	}
	sigs := []any{}
	for _, s := range e.Sigs {
		by := s.Identity
		if by == "" {
			by = fmt.Sprintf("key:%x", s.Key)
		}
		sigs = append(sigs, map[string]any{"by": by, "sig": base64.StdEncoding.EncodeToString(s.Sig[:])})
	}
	m["sigs"] = sigs
	b, err := stdjson.Marshal(m)
	if err != nil {
		panic(err)
	}
	return string(b)
}

// plainLeaf is the digest of a text as a leaf, by the library.
func plainLeaf(text string) api.Sum { return sha256.Sum256(append([]byte{0}, text...)) }

// has asks that an entry has just these keys, and that they are keys and rise.
func has(t *testing.T, e api.Entry, want ...string) {
	t.Helper()
	got, err := Of(e)
	if err != nil || !slices.Equal(got, want) {
		t.Errorf("%.300s: %q, %v, want %q", fmt.Sprint(e), got, err, want)
	}
	for i, k := range got {
		if !Is(k) || !plainKeys.MatchString(k) || i > 0 && got[i-1] >= k {
			t.Errorf("%.300s: key %d is %q", fmt.Sprint(e), i, k)
		}
	}
}

// isNone asks that what is no entry has no keys and no leaf, and meets nothing.
func isNone(t *testing.T, all ...api.Entry) {
	t.Helper()
	for i, e := range all {
		if l, err := Of(e); err != api.ErrKind || len(l) > 0 {
			t.Errorf("%d: Of %.300s: %q, %v", i, fmt.Sprint(e), l, err)
		}
		if d, err := Leaf(e); err != api.ErrKind || d != (api.Sum{}) {
			t.Errorf("%d: Leaf of %.300s: %x, %v", i, fmt.Sprint(e), d, err)
		}
		watched := []string{"", "id:", "id:" + e.Identity, Key(e.Key), Digest(e.Digest), hash(string(e.Payload))}
		for _, s := range e.Sigs {
			watched = append(watched, "id:"+s.Identity, Key(s.Key))
		}
		if Meets(e, watched...) || Meets(e) {
			t.Errorf("%d: %.300s meets", i, fmt.Sprint(e))
		}
	}
}

// cloneEntry is an entry that shares nothing with the one that it is a copy of, with nil for each empty list.
func cloneEntry(e api.Entry) api.Entry {
	e.Payload = append([]byte(nil), e.Payload...)
	e.Sigs = append([]api.Sig(nil), e.Sigs...)
	return e
}

// sameEntry tells whether two are the same field by field; nil and empty lists are.
func sameEntry(a, b api.Entry) bool { return reflect.DeepEqual(cloneEntry(a), cloneEntry(b)) }
