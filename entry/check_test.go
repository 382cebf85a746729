package entry

import (
	"fmt"
	"slices"
	"strings"
	"testing"

	"cachet/api"
)

// P15.1: what is an entry, at the edges that the chapter names. What isOne and isNone ask holds Value, Put and Signed, too.

func TestKinds(t *testing.T) { isOne(t, entries()...) }

func TestOtherKinds(t *testing.T) {
	isNone(t, api.Entry{})
	for _, e := range entries() {
		for _, kind := range []int{0, 5, 6, -1, -4, 1 << 32, 1<<32 + 1, -1 << 63, 1<<63 - 1} {
			other := e
			other.Kind = kind
			isNone(t, other)
		}
	}
}

// Entries with one thing at choice: who is bound, who signs, or which type and payload.
func binding(name string) api.Entry {
	return api.Entry{Kind: api.Binding, Op: api.Bind, Identity: name, Key: key(1), Sigs: []api.Sig{byKey(1)}}
}

func artifact(sigs ...api.Sig) api.Entry {
	return api.Entry{Kind: api.Artifact, Digest: digest(1), Sigs: sigs}
}

func envelope(kind string, payload []byte) api.Entry {
	return api.Entry{Kind: api.Envelope, Type: kind, Payload: payload, Sigs: []api.Sig{byName("alice")}}
}

func TestNames(t *testing.T) {
	for _, name := range []string{"a", "z", "0", "9", ".", "-", "_", "@", "alice", "alice@example.org", "key", "key.", strings.Repeat("a", 63), strings.Repeat("a", 64), strings.Repeat(".-_@", 16)} {
		isOne(t, binding(name), artifact(byName(name)))
	}
	for _, name := range []string{
		strings.Repeat("a", 65), strings.Repeat("a", 4096), strings.Repeat("@", 65),
		"A", "Alice", "alicE", "ALICE", " ", " a", "a ", "a b", "a\t", "\na", "a\n", "a\x00", "\x00",
		"key:", "key:" + figures(1), "a:b", "id:alice", "a/b", "a,b", "a+b", "a\"", "a\\", "é", "aé", "éa", "ａ", "😀", "\xff", "a\xff", "a\xc3", "\u0131", "\u212a",
		strings.Repeat("é", 32), strings.Repeat("a", 63) + "A", "A" + strings.Repeat("a", 63),
	} {
		isNone(t, binding(name), artifact(byName(name)))
	}
	isNone(t, binding(""))
}

// TestNameSigns has each byte as a name, and at each place of one.
func TestNameSigns(t *testing.T) {
	taken := 0
	for a := range 256 {
		c := string([]byte{byte(a)})
		want := strings.Contains("abcdefghijklmnopqrstuvwxyz0123456789.-_@", c)
		for _, name := range []string{c, c + "a", "a" + c, "a" + c + "a", c + "a" + c, c + c} {
			for _, e := range []api.Entry{binding(name), artifact(byName(name))} {
				if holds(t, e) != want {
					t.Errorf("%q is a name: %v", name, !want)
				}
			}
		}
		if want {
			taken++
		}
	}
	if taken != 40 {
		t.Error(taken)
	}
}

func TestTypes(t *testing.T) {
	for _, kind := range []string{"a", "!", "~", "A", "0", `"`, `\`, "text/plain", "application/vnd.in-toto+json", strings.Repeat("t", 63), strings.Repeat("t", 64), strings.Repeat("~", 64), "cachet", "cachet.", "cachet0", "cache/", "Cachet/", "cacheT/x", "acachet/", "/cachet/", "cachet:/", "x/cachet/y", `cachet\/`} {
		isOne(t, envelope(kind, []byte("p")))
		holdsStatement(t, strings.Replace(statement(subject("a", 1)), `"https://slsa.dev/provenance/v1"`, plainJSON(kind), 1))
	}
	for _, kind := range []string{
		"", strings.Repeat("t", 65), strings.Repeat("t", 4096), "cachet/", "cachet/a", "cachet/artifact", "cachet/binding", "cachet//", "cachet/" + strings.Repeat("a", 57), "cachet/" + strings.Repeat("a", 58),
		" ", "a b", " a", "a ", "a\n", "\ta", "a\x7f", "\x7f", "a\x00", "\x1f", "é", "aé", "a\x80", "\xff", "\u0100", "😀", strings.Repeat("é", 32), " cachet/",
	} {
		isNone(t, envelope(kind, []byte("p")))
	}
}

// TestTypeSigns has each byte as a type, and at each place of one.
func TestTypeSigns(t *testing.T) {
	for a := range 256 {
		c := string([]byte{byte(a)})
		for _, kind := range []string{c, c + "a", "a" + c, "a" + c + "a"} {
			if want := 0x21 <= a && a <= 0x7e; holds(t, envelope(kind, nil)) != want {
				t.Errorf("%q is a type: %v", kind, !want)
			}
		}
	}
}

func TestPayloads(t *testing.T) {
	for _, n := range []int{0, 1, 2, 3, 4, 63, 64, 2046, 2047, 2048} {
		isOne(t, envelope("x", row(n, n)), envelope("x", make([]byte, n)))
	}
	isOne(t, envelope("x", nil), envelope("x", []byte{}), envelope("x", []byte(statement())), envelope("x", []byte("\xff\x00\"")))
	for _, n := range []int{2049, 2050, 4096, 4097, 1 << 20} {
		isNone(t, envelope("x", make([]byte, n)))
	}
}

func TestHowManySigs(t *testing.T) {
	var names, keys []api.Sig
	for i := range 20 {
		names = append(names, byName(fmt.Sprintf("name%02d", i)))
		keys = append(keys, byKey(i))
	}
	for n := range 21 {
		for _, sigs := range [][]api.Sig{names[:n], keys[:n], append(slices.Clone(keys[:n/2]), names[:n-n/2]...)} {
			for _, e := range entries() {
				e.Sigs = sigs
				if holds(t, e) != (1 <= n && n <= 8) {
					t.Errorf("%d signatures", n)
				}
			}
		}
	}
	isNone(t, artifact(), api.Entry{Kind: api.Artifact, Sigs: []api.Sig{}})
}

func TestSigsRise(t *testing.T) {
	a, b, c := byName("a"), byName("b"), byName("c")
	isOne(t, artifact(a, b, c), artifact(a, c), artifact(byName("a"), byName("a."), byName("aa"), byName("b")), artifact(byName("-"), byName("."), byName("0"), byName("9"), byName("@"), byName("_"), byName("a")))
	isNone(t, artifact(b, a), artifact(a, c, b), artifact(b, a, c), artifact(c, b, a), artifact(byName("aa"), byName("a")), artifact(byName("_"), byName("@")), artifact(byName("10"), byName("9"), byName("2")))
	isOne(t, artifact(byKey(1), byKey(2)), artifact(byKey(0x7f), byKey(0x80)), artifact(byKey(0), byKey(0xff)))
	isNone(t, artifact(byKey(2), byKey(1)), artifact(byKey(0x80), byKey(0x7f)), artifact(byKey(0xff), byKey(0)))
	last, more := api.Sig{Key: api.Key{31: 1}}, api.Sig{Key: api.Key{31: 2}}
	isOne(t, artifact(api.Sig{}, last, more))
	isNone(t, artifact(more, last), artifact(last, api.Sig{}))
}

func TestTwoByOneSigner(t *testing.T) {
	a, other := byName("a"), byName("a")
	other.Sig = wide(99)
	k, otherKey := byKey(1), byKey(1)
	otherKey.Sig = wide(99)
	isNone(t, artifact(a, a), artifact(a, other), artifact(other, a), artifact(k, k), artifact(k, otherKey), artifact(otherKey, k), artifact(a, other, byName("b")), artifact(byName("0"), a, other), artifact(a, k, otherKey), artifact(api.Sig{}, api.Sig{}))
	// Another signer's signature may have the same bytes.
	b := byName("b")
	b.Sig = a.Sig
	isOne(t, artifact(a, b))
}

// TestNamesAndKeys has both side by side: the text of a key begins with key:, which stands among names by its bytes.
func TestNamesAndKeys(t *testing.T) {
	for _, k := range []api.Sig{byKey(0), byKey(0xff), {}} {
		for _, ahead := range []string{"a", "alice", "k", "ke", "key", "key-", "key.", "key0", "key9zz", "0", "@", "key" + strings.Repeat("9", 61)} {
			isOne(t, artifact(byName(ahead), k))
			isNone(t, artifact(k, byName(ahead)))
		}
		for _, behind := range []string{"key@", "key_", "keya", "keyz", "kez", "l", "zoe"} {
			isOne(t, artifact(k, byName(behind)))
			isNone(t, artifact(byName(behind), k))
		}
	}
	isOne(t, artifact(byName("a"), byName("key"), byKey(0), byKey(1), byName("key@"), byName("z")))
}

func TestSignerOfBothOrNeither(t *testing.T) {
	for _, n := range []int{0, 31} {
		both := byName("alice")
		both.Key[n] = 1
		isNone(t, artifact(both), artifact(byName("a"), both), artifact(both, byName("b")))
	}
	// A key of noughts is a key.
	isOne(t, artifact(api.Sig{}), artifact(api.Sig{Sig: wide(1)}), artifact(byName("a"), api.Sig{}))
}

func TestOps(t *testing.T) {
	for op := -3; op < 10; op++ {
		e := api.Entry{Kind: api.Binding, Op: op, Identity: "bob", Sigs: []api.Sig{byName("bob")}}
		if holds(t, e) != (1 <= op && op <= 3) {
			t.Errorf("Op %d without a key", op)
		}
		for _, k := range []api.Key{key(1), {0: 1}, {31: 1}, {31: 0x80}} {
			e.Key = k
			if holds(t, e) != (1 <= op && op <= 2) {
				t.Errorf("Op %d with a key", op)
			}
		}
	}
	for _, op := range []int{-1 << 63, 1<<63 - 1, 1<<32 + 1, 257} {
		isNone(t, api.Entry{Kind: api.Binding, Op: op, Identity: "bob", Sigs: []api.Sig{byName("bob")}})
	}
}

// TestSpare gives each kind what it hasn't.
func TestSpare(t *testing.T) {
	spares := map[string]func(*api.Entry){
		"digest":   func(e *api.Entry) { e.Digest = api.Sum{31: 1} },
		"type":     func(e *api.Entry) { e.Type = "x" },
		"payload":  func(e *api.Entry) { e.Payload = []byte(statement(subject("a", 1))) },
		"op":       func(e *api.Entry) { e.Op = 1 },
		"identity": func(e *api.Entry) { e.Identity = "alice" },
		"key":      func(e *api.Entry) { e.Key = api.Key{31: 1} },
	}
	has := map[int]string{api.Artifact: "digest", api.Envelope: "type payload", api.Statement: "payload", api.Binding: "op identity key"}
	for _, e := range entries() {
		for name, give := range spares {
			other := cloneEntry(e)
			give(&other)
			revoked := other.Kind == api.Binding && other.Op == api.Revoke && name == "key"
			if want := strings.Contains(has[e.Kind], name) && !revoked; holds(t, other) != want {
				fault(t, "%v with a %s: %v", e, name, !want)
			}
		}
	}
	// What is spare and empty is zero.
	e := artifact(byName("a"))
	e.Payload = []byte{}
	isOne(t, e)
	b := binding("bob")
	b.Payload = make([]byte, 0, 10)
	isOne(t, b)
	isNone(t, api.Entry{Kind: api.Artifact, Payload: []byte{0}, Sigs: e.Sigs}, api.Entry{Kind: api.Envelope, Type: "x", Digest: api.Sum{1}, Sigs: e.Sigs}, api.Entry{Kind: api.Artifact, Op: -1, Sigs: e.Sigs})
}
