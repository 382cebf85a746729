package keys

import (
	"encoding/base64"
	"fmt"
	"slices"
	"strings"
	"testing"

	"cachet/api"
)

// P16.1: leaves, and what is watched.

// sized is an entry whose text has so many bytes.
func sized(size int) api.Entry {
	e := api.Entry{Kind: api.Envelope, Type: "t", Sigs: holders(8)}
	// The payload's signs go by fours; the rest hangs on the type.
	e.Payload = row(size, (size-len(plainText(e)))/4*3)
	e.Type += strings.Repeat("t", size-len(plainText(e)))
	return e
}

// TestLeafWrittenOut has a text that is written out whole.
func TestLeafWrittenOut(t *testing.T) {
	e := artifact(3, byName("alice"))
	text := fmt.Sprintf(`{"digest":"%s","kind":"artifact","sigs":[{"by":"alice","sig":"%s"}]}`, figures(3), base64.StdEncoding.EncodeToString(row(5, 64)))
	if d, err := Leaf(e); err != nil || d != plainLeaf(text) {
		t.Errorf("%x, %v", d, err)
	}
}

func TestLeaf(t *testing.T) {
	seen := map[api.Sum]int{}
	for i, e := range entries() {
		d, err := Leaf(e)
		if err != nil || d != plainLeaf(plainText(e)) {
			t.Errorf("%d: %x, %v", i, d, err)
		}
		if first, twice := seen[d]; twice {
			t.Errorf("%d has the leaf of %d", i, first)
		}
		seen[d] = i
	}
}

func TestLeafSizes(t *testing.T) {
	for size := 4060; size <= 4180; size++ {
		e := sized(size)
		text := plainText(e)
		if len(text) != size {
			t.Fatal(len(text), size)
		}
		d, err := Leaf(e)
		if size <= 4096 && (err != nil || d != plainLeaf(text)) {
			t.Errorf("%d bytes: %x, %v", size, d, err)
		}
		if size > 4096 && (err != api.ErrSize || d != (api.Sum{})) {
			t.Errorf("%d bytes: %x, %v", size, d, err)
		}
	}
	// What is no entry isn't asked for its size.
	e := sized(4097)
	slices.Reverse(e.Sigs)
	isNone(t, e)
}

func TestMeets(t *testing.T) {
	for i, e := range entries() {
		none := []string{"", "id:", "id:nobody", "bob", "signer0", "zoe", "key:", "sha256:", "hello", "id:Bob", " id:bob", "id:bob ", figures(9), "sha256:" + strings.ToUpper(figures(9)), "key:" + figures(99), "sha256:" + figures(99), "id:bo", "id:bobb"}
		if Meets(e) || Meets(e, nil...) || Meets(e, none...) || Meets(e, slices.Concat(none, none)...) {
			t.Errorf("%d: meets what it hasn't", i)
		}
		for _, k := range plainOf(e) {
			if !Meets(e, k) || !Meets(e, k, k) || !Meets(e, append(none, k)...) || !Meets(e, append([]string{k}, none...)...) || !Meets(e, slices.Concat(none, []string{k}, none, []string{k})...) {
				t.Errorf("%d: doesn't meet %q", i, k)
			}
			// The same signs under another sort.
			_, rest, _ := strings.Cut(k, ":")
			for _, mark := range []string{"id:", "key:", "sha256:", ""} {
				if other := mark + rest; Meets(e, other) != slices.Contains(plainOf(e), other) {
					t.Errorf("%d: %q", i, other)
				}
			}
			if Meets(e, k[:len(k)-1]) && !slices.Contains(plainOf(e), k[:len(k)-1]) || Meets(e, k+"0") || Meets(e, strings.ToUpper(k)) {
				t.Errorf("%d: meets a part of %q, or more", i, k)
			}
		}
		if !Meets(e, plainOf(e)...) {
			t.Errorf("%d: doesn't meet its own keys", i)
		}
	}
}

// TestMeetsRevoked: the key of a binding that revokes is none of its keys.
func TestMeetsRevoked(t *testing.T) {
	if e := binding(api.Revoke, "bob", api.Key{}, byName("bob")); Meets(e, "key:"+noughts) || !Meets(e, "id:bob") {
		t.Error("revoked")
	}
	for _, op := range []int{api.Bind, api.Rotate} {
		if !Meets(binding(op, "bob", api.Key{}, byName("bob")), "key:"+noughts) {
			t.Error(op)
		}
	}
}

func TestMeetsMany(t *testing.T) {
	e := artifact(1, byName("alice"))
	var many []string
	for i := range 1 << 14 {
		many = append(many, fmt.Sprintf("id:alice%d", i))
	}
	if Meets(e, many...) || !Meets(e, append(many, "id:alice")...) {
		t.Error("many")
	}
}
