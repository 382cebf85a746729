package entry

import (
	"bytes"
	"encoding/hex"
	"fmt"
	"reflect"
	"strings"
	"testing"

	"cachet/api"
)

// Short forms of what entries and values are made of.

func byName(name string) api.Sig { return api.Sig{Identity: name, Sig: wide(len(name))} }

func byKey(n int) api.Sig { return api.Sig{Key: key(n), Sig: wide(n)} }

func key(n int) api.Key { return api.Key(row(n, 32)) }

func digest(n int) api.Sum { return api.Sum(row(n, 32)) }

func wide(n int) api.Wide { return api.Wide(row(n, 64)) }

// row is so many bytes, which hang on n from the first one on.
func row(n, size int) []byte {
	out := make([]byte, size)
	for i := range out {
		out[i] = byte(n + 7*i)
	}
	return out
}

func num(n int) api.Value { return api.Value{Kind: api.Int, Int: n} }

func txt(s string) api.Value { return api.Value{Kind: api.Text, Text: s} }

func list(all ...api.Value) api.Value { return api.Value{Kind: api.List, List: all} }

func pairs(all ...api.Pair) api.Value { return api.Value{Kind: api.Object, Pairs: all} }

func with(name string, v api.Value) api.Pair { return api.Pair{Name: name, Value: v} }

// figures is the hex of a digest.
func figures(n int) string { return hex.EncodeToString(row(n, 32)) }

// statement is a statement's text about some subjects.
func statement(subjects ...string) string {
	return `{"_type":"https://in-toto.io/Statement/v1","subject":[` + strings.Join(subjects, ",") + `],"predicateType":"https://slsa.dev/provenance/v1","predicate":{"x":[1]}}`
}

// subject is the text of a statement's subject.
func subject(name string, n int) string {
	return fmt.Sprintf(`{"name":%q,"digest":{"sha256":"%s"}}`, name, figures(n))
}

// padded is a text with blanks behind it, of so many bytes.
func padded(text string, size int) string { return text + strings.Repeat(" ", size-len(text)) }

// entries are some of each kind.
func entries() []api.Entry {
	both := func() []api.Sig { return []api.Sig{byName("alice"), byKey(2)} }
	return []api.Entry{
		{Kind: api.Artifact, Digest: digest(9), Sigs: both()},
		{Kind: api.Artifact, Sigs: []api.Sig{{}}},
		{Kind: api.Envelope, Type: "text/plain", Payload: []byte("hello"), Sigs: both()},
		{Kind: api.Envelope, Type: "x", Sigs: []api.Sig{byKey(3), byName("zoe@example.org")}},
		{Kind: api.Envelope, Type: `"\<&>~!`, Payload: row(1, 2048), Sigs: []api.Sig{byName("a"), byName("b"), byName("c")}},
		{Kind: api.Statement, Payload: []byte(statement(subject("a", 1))), Sigs: both()},
		{Kind: api.Statement, Payload: []byte(" " + statement(subject("b", 2), subject("a", 1), subject("b", 2)) + "\n"), Sigs: both()},
		{Kind: api.Binding, Op: api.Bind, Identity: "bob", Key: key(4), Sigs: []api.Sig{byKey(4)}},
		{Kind: api.Binding, Op: api.Rotate, Identity: "bob", Key: key(5), Sigs: []api.Sig{byName("bob"), byKey(5)}},
		{Kind: api.Binding, Op: api.Rotate, Identity: "bob", Sigs: both()},
		{Kind: api.Binding, Op: api.Revoke, Identity: "bob", Sigs: []api.Sig{byName("bob")}},
	}
}

// cloneEntry is an entry that shares nothing with the one that it is a copy of, with nil for each empty list.
func cloneEntry(e api.Entry) api.Entry {
	e.Payload = append([]byte(nil), e.Payload...)
	e.Sigs = append([]api.Sig(nil), e.Sigs...)
	return e
}

// sameEntry tells whether two are the same field by field; nil and empty lists are.
func sameEntry(a, b api.Entry) bool { return reflect.DeepEqual(cloneEntry(a), cloneEntry(b)) }

// clone is a value that shares nothing with the one that it is a copy of, with nil for each empty list.
func clone(v api.Value) api.Value {
	out := api.Value{Kind: v.Kind, Int: v.Int, Text: strings.Clone(v.Text)}
	for _, x := range v.List {
		out.List = append(out.List, clone(x))
	}
	for _, p := range v.Pairs {
		out.Pairs = append(out.Pairs, with(strings.Clone(p.Name), clone(p.Value)))
	}
	return out
}

// alike tells whether two values are the same field by field, pairs in their order; nil and empty lists are.
func alike(a, b api.Value) bool { return reflect.DeepEqual(clone(a), clone(b)) }

// parts are all values within a value, itself first, to be changed where they stand.
func parts(v *api.Value) []*api.Value {
	out := []*api.Value{v}
	for i := range v.List {
		out = append(out, parts(&v.List[i])...)
	}
	for i := range v.Pairs {
		out = append(out, parts(&v.Pairs[i].Value)...)
	}
	return out
}

// valueOf is the value of an entry.
func valueOf(t *testing.T, e api.Entry) api.Value {
	t.Helper()
	v, err := Value(e)
	if err != nil {
		t.Fatalf("%v: %v", e, err)
	}
	return v
}

// isNone asks that each call refuses what is no entry, and answers nothing beside that.
func isNone(t *testing.T, all ...api.Entry) {
	t.Helper()
	for _, e := range all {
		if err := Check(e); err != api.ErrKind {
			fault(t, "Check of %v: %v", e, err)
		}
		if v, err := Value(e); err != api.ErrKind || !alike(v, api.Value{}) {
			fault(t, "Value of %v: %v, %v", e, v, err)
		}
		if b, err := Put(e); err != api.ErrKind || len(b) > 0 {
			fault(t, "Put of %v: %.200s, %v", e, b, err)
		}
		if b, err := Signed(e); err != api.ErrKind || len(b) > 0 {
			fault(t, "Signed of %v: %.200s, %v", e, b, err)
		}
		if plainEntry(e) {
			fault(t, "%v is plainly an entry", e)
		}
	}
}

// isOne asks all calls about an entry, against the chapter's words done another way (P15.1, P15.2).
func isOne(t *testing.T, all ...api.Entry) {
	t.Helper()
	for _, e := range all {
		if err := Check(e); err != nil || !plainEntry(e) {
			fault(t, "Check of %v: %v", e, err)
			continue
		}
		want := plainText(e)
		v, err := Value(e)
		if err != nil || plainJSON(plainValue(v)) != want {
			fault(t, "Value of %v: %v, %v", e, v, err)
		}
		if back, err := Of(v); err != nil || !sameEntry(back, e) {
			fault(t, "Of the value of %v: %v, %v", e, back, err)
		}
		if b, err := Signed(e); err != nil || !bytes.Equal(b, plainSigned(e)) {
			fault(t, "Signed of %v: %.200q, %v", e, b, err)
		}
		if len(want) > 4096 {
			if b, err := Put(e); err != api.ErrSize || len(b) > 0 {
				fault(t, "Put of %v: %d bytes, %v", e, len(b), err)
			}
			continue
		}
		b, err := Put(e)
		if err != nil || string(b) != want {
			fault(t, "Put of %v: %.200s, %v, want %.200s", e, b, err, want)
		}
		if back, err := Parse(b); err != nil || !sameEntry(back, e) {
			fault(t, "Parse of %.200s: %v, %v", b, back, err)
		}
	}
}

// noValue asks that values are no entry's.
func noValue(t *testing.T, all ...api.Value) {
	t.Helper()
	for _, v := range all {
		if e, err := Of(v); err != api.ErrKind || !sameEntry(e, api.Entry{}) {
			fault(t, "Of %v: %v, %v", v, e, err)
		}
	}
}

// noText asks that texts aren't parsed, for a reason.
func noText(t *testing.T, want error, all ...string) {
	t.Helper()
	for _, s := range all {
		if e, err := Parse([]byte(s)); err != want || !sameEntry(e, api.Entry{}) {
			fault(t, "Parse of %.300q: %v, %v", s, e, err)
		}
	}
}

// fault tells a fault, but not all of what has thousands of bytes.
func fault(t *testing.T, format string, args ...any) {
	t.Helper()
	t.Errorf("%.800s", fmt.Sprintf(format, args...))
}
