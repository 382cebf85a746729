package entry

import (
	"bytes"
	"fmt"
	"strings"
	"testing"

	"cachet/api"
)

// P15.1: Signed, Auth and Signer.

func TestAuth(t *testing.T) {
	for _, c := range []struct{ kind, payload, want string }{
		{"a", "bc", "DSSEv1 1 a 2 bc"},
		{"", "", "DSSEv1 0  0 "},
		{"a", "", "DSSEv1 1 a 0 "},
		{"", "a", "DSSEv1 0  1 a"},
		{"http://example.com/HelloWorld", "hello world", "DSSEv1 29 http://example.com/HelloWorld 11 hello world"},
		{" ", " ", "DSSEv1 1   1  "},
		{"é", "é\x00\xff", "DSSEv1 2 é 4 é\x00\xff"},
		{"\xff", "\n", "DSSEv1 1 \xff 1 \n"},
		{"cachet/artifact", "x", "DSSEv1 15 cachet/artifact 1 x"},
		{"a 2 bc", "d", "DSSEv1 6 a 2 bc 1 d"},
		{strings.Repeat("t", 10), strings.Repeat("p", 100), "DSSEv1 10 tttttttttt 100 " + strings.Repeat("p", 100)},
	} {
		if got := Auth(c.kind, []byte(c.payload)); string(got) != c.want {
			t.Errorf("%q, %q: %q", c.kind, c.payload, got)
		}
	}
	if !bytes.Equal(Auth("a", nil), Auth("a", []byte{})) {
		t.Error("nil and empty differ")
	}
}

func TestAuthOfGreatOnes(t *testing.T) {
	for _, n := range []int{9, 10, 99, 100, 999, 1000, 2048, 2049, 4096, 4097, 65535, 1 << 20} {
		kind, payload := strings.Repeat("k", n), row(n, n)
		want := fmt.Sprintf("DSSEv1 %d %s %d %s", n, kind, n, payload)
		if got := Auth(kind, payload); string(got) != want {
			t.Errorf("%d: %d bytes", n, len(got))
		}
		want = fmt.Sprintf("DSSEv1 0  %d %s", n, payload)
		if got := Auth("", payload); string(got) != want {
			t.Errorf("%d without a type: %d bytes", n, len(got))
		}
	}
}

func TestSigned(t *testing.T) {
	payload := statement(subject("a", 1))
	both := []api.Sig{byName("alice"), byKey(2)}
	for i, c := range []struct {
		e    api.Entry
		want string
	}{
		{api.Entry{Kind: api.Envelope, Type: "text/plain", Payload: []byte("hello"), Sigs: both}, "DSSEv1 10 text/plain 5 hello"},
		{api.Entry{Kind: api.Envelope, Type: "x", Sigs: both}, "DSSEv1 1 x 0 "},
		{api.Entry{Kind: api.Envelope, Type: "application/vnd.in-toto+json", Payload: []byte(payload), Sigs: both}, fmt.Sprintf("DSSEv1 28 application/vnd.in-toto+json %d %s", len(payload), payload)},
		{api.Entry{Kind: api.Statement, Payload: []byte(payload), Sigs: both}, fmt.Sprintf("DSSEv1 28 application/vnd.in-toto+json %d %s", len(payload), payload)},
		{api.Entry{Kind: api.Statement, Payload: []byte(" " + payload + "\n"), Sigs: both}, fmt.Sprintf("DSSEv1 28 application/vnd.in-toto+json %d  %s\n", len(payload)+2, payload)},
		{api.Entry{Kind: api.Artifact, Digest: digest(7), Sigs: both}, "DSSEv1 15 cachet/artifact 32 " + string(row(7, 32))},
		{api.Entry{Kind: api.Artifact, Sigs: both}, "DSSEv1 15 cachet/artifact 32 " + string(make([]byte, 32))},
		{api.Entry{Kind: api.Binding, Op: api.Bind, Identity: "bob", Key: key(4), Sigs: both}, `DSSEv1 14 cachet/binding 120 {"identity":"bob","key":"` + figures(4) + `","kind":"binding","op":"bind"}`},
		{api.Entry{Kind: api.Binding, Op: api.Rotate, Identity: "bob", Sigs: both}, `DSSEv1 14 cachet/binding 122 {"identity":"bob","key":"` + strings.Repeat("0", 64) + `","kind":"binding","op":"rotate"}`},
		{api.Entry{Kind: api.Binding, Op: api.Revoke, Identity: "bob", Sigs: both}, `DSSEv1 14 cachet/binding 49 {"identity":"bob","kind":"binding","op":"revoke"}`},
	} {
		if got, err := Signed(c.e); err != nil || string(got) != c.want {
			t.Errorf("%d: %q, %v", i, got, err)
		}
	}
}

// TestSignedHasNoSigs: who signs doesn't change what is signed.
func TestSignedHasNoSigs(t *testing.T) {
	for i, e := range entries() {
		first, err := Signed(e)
		e.Sigs = []api.Sig{byName("zoe")}
		second, other := Signed(e)
		if err != nil || other != nil || !bytes.Equal(first, second) {
			t.Errorf("%d: %q, %v, and %q, %v", i, first, err, second, other)
		}
	}
}

// TestSignedTooLong: an entry whose text is too long is one still, and what is signed of it has no bound of its own.
func TestSignedTooLong(t *testing.T) {
	e := sized(4097)
	if got, err := Signed(e); err != nil || !bytes.Equal(got, Auth(e.Type, e.Payload)) {
		t.Errorf("%d bytes, %v", len(got), err)
	}
}

func TestSigner(t *testing.T) {
	zero := strings.Repeat("0", 64)
	for _, c := range []struct {
		s    api.Sig
		want string
	}{
		{api.Sig{Identity: "alice"}, "alice"},
		{api.Sig{Identity: "alice", Sig: wide(1)}, "alice"},
		{api.Sig{Identity: "alice", Key: key(1)}, "alice"},
		{api.Sig{Identity: "A b\xff", Key: key(1)}, "A b\xff"},
		{api.Sig{Identity: " "}, " "},
		{api.Sig{Identity: "key:"}, "key:"},
		{api.Sig{Identity: strings.Repeat("a", 100)}, strings.Repeat("a", 100)},
		{api.Sig{Key: key(1)}, "key:" + figures(1)},
		{api.Sig{Key: key(0xa5), Sig: wide(1)}, "key:" + figures(0xa5)},
		{api.Sig{Key: api.Key{0: 0xab, 31: 0x0c}}, "key:ab" + zero[4:] + "0c"},
		{api.Sig{}, "key:" + zero},
		{api.Sig{Sig: wide(1)}, "key:" + zero},
	} {
		if got := Signer(c.s); got != c.want {
			t.Errorf("%v: %q", c.s, got)
		}
	}
}
