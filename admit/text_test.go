package admit

import (
	"bytes"
	stdjson "encoding/json"
	"fmt"
	"slices"
	"strings"
	"testing"

	"cachet/api"
)

// P18.1 and P18.3: which texts are submissions, and which text is answered.

func TestExample(t *testing.T) {
	g := New()
	at, own, err := g.Submit(text(artifact(1, own(1))))
	if at != 0 || string(own) != plainText(artifact(1, signer{api.Sig{Key: key(1)}, 1})) || err != nil {
		t.Errorf("%d, %q, %v", at, own, err)
	}
	// A key that was never bound is none the more bound by that.
	if _, err := g.Table().Key(api.Sig{Key: key(1)}); err != nil || g.Len() != 1 {
		t.Error(err, g.Len())
	}
}

// kinds are some of each kind that are taken, whoever signs them.
func kinds(all ...signer) []api.Entry {
	return []api.Entry{
		artifact(0, all...),
		artifact(1, all...),
		envelope("text/plain", "hello", all...),
		envelope("x", "", all...),
		envelope(`"\<&>~!`, "\x00\xff", all...),
		envelope("t", strings.Repeat("p", 2048), all...),
		statement(about, all...),
		statement(" "+about+"\n", all...),
	}
}

func TestKinds(t *testing.T) {
	for _, by := range [][]signer{{own(1)}, {name("alice", 4)}, {name("alice", 4), own(1)}, {own(1), own(2), own(3), own(4), name("zoe", 6)}} {
		g, p := gateOf(t, bindOf("alice", 4), bindOf("zoe", 6))
		for _, e := range kinds(by...) {
			p = submitted(t, g, p, text(e), nil)
		}
		for _, e := range kinds(by...) {
			p = submitted(t, g, p, text(e), api.ErrTwice)
		}
	}
	gateOf(t, bindOf("alice", 1), rotateOf("alice", 1, 2), revokeOf("alice", 2), bindOf("alice", 3))
}

// TestNoSubmission has texts that are none, with a gate that is new and one that isn't.
func TestNoSubmission(t *testing.T) {
	g, p := gateOf(t, artifact(1, own(1)), bindOf("alice", 2))
	good := plainText(artifact(2, own(1)))
	for want, all := range map[api.Errno][]string{
		api.ErrForm: {"", " ", "{", "}", "hello", good + "}", good + good, good[1:], good[:len(good)-1], "\ufeff" + good, strings.Replace(good, "artifact", "art\xff", 1),
			strings.Replace(good, `{"digest"`, `{"kind":"artifact","digest"`, 1), "{\"digest\"\n", strings.Repeat("[", 9), strings.Repeat(" ", 4096)},
		api.ErrKind: {"{}", "null", "[]", "1", `"artifact"`, strings.Replace(good, "artifact", "art", 1), strings.Replace(good, `"kind"`, `"sort"`, 1),
			strings.Replace(good, `{"digest"`, `{"more":1,"digest"`, 1), strings.Replace(good, `"key:`, `"KEY:`, 1), strings.Replace(good, "==", "=", 1),
			plainText(api.Entry{Kind: api.Artifact}), plainText(artifact(2, own(1), own(1))), plainText(envelope("cachet/artifact", "p", own(1))),
			plainText(statement("{}", own(1))), plainText(binding(api.Bind, "Alice", 1, own(1)))},
		api.ErrSize: {strings.Repeat(" ", 4097), strings.Repeat("{", 5000), good + strings.Repeat(" ", 4097-len(good)), strings.Repeat(" ", 1<<16) + good, strings.Repeat("\xff", 4097)},
	} {
		for _, s := range all {
			submitted(t, New(), nil, []byte(s), want)
			submitted(t, g, p, []byte(s), want)
		}
	}
	submitted(t, g, p, nil, api.ErrForm)
	submitted(t, g, p, []byte(good), nil)
}

// TestSizes has texts, and entries' own texts, at the greatest size.
func TestSizes(t *testing.T) {
	for size := 4090; size <= 4102; size++ {
		e := sized(size)
		if len(text(e)) != size {
			t.Fatal(len(text(e)))
		}
		var want error
		if size > 4096 {
			want = api.ErrSize
		}
		submitted(t, New(), nil, text(e), want)
		takes(t, New(), nil, e, want)
		// A short entry with blanks to that size.
		short := text(artifact(1, own(1)))
		submitted(t, New(), nil, append(short, bytes.Repeat([]byte(" "), size-len(short))...), want)
	}
	// Eight signers and the longest payload are an entry, but its own text is too long.
	var all []signer
	for n := range 8 {
		all = append(all, own(n))
	}
	long := envelope("t", strings.Repeat("p", 2048), all...)
	submitted(t, New(), nil, text(long), api.ErrSize)
	takes(t, New(), nil, long, api.ErrSize)
	// Ahead of its size what it is, and behind it whether its keys are there.
	notRising := cloneEntry(long)
	slices.Reverse(notRising.Sigs)
	takes(t, New(), nil, notRising, api.ErrKind)
	bound := binding(api.Revoke, "alice", 0, name("alice", 1))
	submitted(t, New(), nil, append(text(bound), make([]byte, 4096)...), api.ErrSize)
}

// reversed writes what the library read, with blanks, and the names of each object falling by their bytes.
func reversed(v any) string {
	switch x := v.(type) {
	case map[string]any:
		var names, out []string
		for n := range x {
			names = append(names, n)
		}
		slices.Sort(names)
		slices.Reverse(names)
		for _, n := range names {
			out = append(out, fmt.Sprintf("\n\t%q :\r %s", n, reversed(x[n])))
		}
		return "{" + strings.Join(out, " ,") + "\n}"
	case []any:
		var out []string
		for _, one := range x {
			out = append(out, reversed(one))
		}
		return "[ " + strings.Join(out, ", ") + " ]"
	}
	return plainJSON(v)
}

// escaped writes what the library read with each sign of each text by its figures.
func escaped(v any) string {
	switch x := v.(type) {
	case map[string]any:
		var out []string
		for n, one := range x {
			out = append(out, escaped(n)+":"+escaped(one))
		}
		return "{" + strings.Join(out, ",") + "}"
	case []any:
		var out []string
		for _, one := range x {
			out = append(out, escaped(one))
		}
		return "[" + strings.Join(out, ",") + "]"
	case string:
		var b strings.Builder
		for i := range len(x) {
			fmt.Fprintf(&b, `\u%04X`, x[i])
		}
		return `"` + b.String() + `"`
	}
	return plainJSON(v)
}

// loose are texts of an entry, none of which is its own one.
func loose(t *testing.T, e api.Entry) [][]byte {
	t.Helper()
	var v any
	if err := stdjson.Unmarshal(text(e), &v); err != nil {
		t.Fatal(err)
	}
	var indented bytes.Buffer
	if err := stdjson.Indent(&indented, text(e), "\r", "\t"); err != nil {
		t.Fatal(err)
	}
	all := [][]byte{append([]byte(" "), text(e)...), append(text(e), '\n'), indented.Bytes(), []byte(reversed(v)), []byte(escaped(v))}
	for _, b := range all {
		if bytes.Equal(b, text(e)) || len(b) > 4096 {
			t.Fatalf("%d bytes: %.400q", len(b), b)
		}
	}
	return all
}

// TestLooseTexts has other texts of an entry: the canonical one is answered, and each other one is the same entry again.
func TestLooseTexts(t *testing.T) {
	base, row := gateOf(t, artifact(9, own(9)), bindOf("alice", 4))
	for _, e := range []api.Entry{artifact(1, own(1)), artifact(1, own(1), name("alice", 4)), envelope(`"\<`, "hello", own(1)), statement(about, own(1)), bindOf("bob", 7), rotateOf("alice", 4, 7), revokeOf("alice", 4)} {
		all := append(loose(t, e), text(e))
		for i, b := range all {
			g, p := base.Copy(), row
			p = submitted(t, g, p, b, nil)
			for n := range all {
				submitted(t, g, p, all[(i+n)%len(all)], api.ErrTwice)
			}
			takes(t, g, p, e, api.ErrTwice)
		}
	}
}

// TestNotTwice has entries that differ a little: each is one of its own.
func TestNotTwice(t *testing.T) {
	g, p := gateOf(t)
	for _, e := range []api.Entry{
		artifact(1, own(1)), artifact(2, own(1)), artifact(1, own(2)), artifact(1, own(1), own(2)), artifact(1, own(1), own(2), own(3)),
		envelope("t", "p", own(1)), envelope("t", "q", own(1)), envelope("u", "p", own(1)), envelope("t", "", own(1)), envelope("t", about, own(1)),
		statement(about, own(1)), statement(about+" ", own(1)), statement(about, own(2)),
	} {
		p = submitted(t, g, p, text(e), nil)
	}
	for _, e := range p {
		p = submitted(t, g, p, text(e), api.ErrTwice)
	}
}
