package entry

import (
	"math/rand"
	"strings"
	"testing"

	"cachet/api"
)

// P15.1: Equal.

// places are changes of an entry in one place alone, each place of it once; the entry has two signatures or more.
func places() []func(*api.Entry) {
	out := []func(*api.Entry){
		func(e *api.Entry) { e.Kind++ },
		func(e *api.Entry) { e.Kind = -e.Kind - 1 },
		func(e *api.Entry) { e.Type += "t" },
		func(e *api.Entry) { e.Type = strings.ToUpper(e.Type) + "\x00" },
		func(e *api.Entry) { e.Payload = append(e.Payload, 0) },
		func(e *api.Entry) { e.Payload = append([]byte{0}, e.Payload...) },
		func(e *api.Entry) { e.Op++ },
		func(e *api.Entry) { e.Op -= 1 << 40 },
		func(e *api.Entry) { e.Identity += "i" },
		func(e *api.Entry) { e.Identity = " " + e.Identity },
		func(e *api.Entry) { e.Sigs = e.Sigs[1:] },
		func(e *api.Entry) { e.Sigs = e.Sigs[:len(e.Sigs)-1] },
		func(e *api.Entry) { e.Sigs = nil },
		func(e *api.Entry) { e.Sigs = append(e.Sigs, api.Sig{}) },
		func(e *api.Entry) { e.Sigs = append(e.Sigs, e.Sigs[0]) },
		func(e *api.Entry) { e.Sigs[0], e.Sigs[1] = e.Sigs[1], e.Sigs[0] },
	}
	for i := range 32 {
		out = append(out,
			func(e *api.Entry) { e.Digest[i] ^= 1 << (i % 8) },
			func(e *api.Entry) { e.Key[i] ^= 1 << (i % 8) },
			func(e *api.Entry) { e.Sigs[1].Key[i] ^= 1 << (i % 8) })
	}
	for i := range 64 {
		out = append(out, func(e *api.Entry) { e.Sigs[i%2].Sig[i] ^= 1 << (i % 8) })
	}
	for i := range 2 {
		out = append(out, func(e *api.Entry) { e.Sigs[i].Identity += "s" }, func(e *api.Entry) { e.Sigs[i].Identity = "\xff" })
	}
	return out
}

// full is what is no entry, but has something everywhere.
func full() api.Entry {
	return api.Entry{Kind: 9, Digest: digest(1), Type: "type", Payload: []byte("payload"), Op: 7, Identity: "Identity", Key: key(2), Sigs: []api.Sig{{Identity: "a", Key: key(3), Sig: wide(4)}, byKey(5), {}}}
}

func TestEqualInOnePlace(t *testing.T) {
	for _, e := range append(entries(), full(), api.Entry{}) {
		for len(e.Sigs) < 2 {
			e.Sigs = append(e.Sigs, byName("more"+strings.Repeat("s", len(e.Sigs))))
		}
		for i, change := range places() {
			other := cloneEntry(e)
			change(&other)
			if Equal(e, other) || Equal(other, e) || !Equal(other, cloneEntry(other)) {
				fault(t, "%v in place %d", e, i)
			}
		}
	}
}

func TestEqualInEachByteOfPayload(t *testing.T) {
	e := envelope("x", row(1, 100))
	for i := range 100 {
		other := cloneEntry(e)
		other.Payload[i] ^= 0x80
		if Equal(e, other) || Equal(other, e) {
			t.Error("byte", i)
		}
		other.Payload = e.Payload[:i]
		if Equal(e, other) || Equal(other, e) {
			t.Error("the first", i)
		}
	}
}

func TestEqualSame(t *testing.T) {
	all := append(entries(), full(), api.Entry{}, api.Entry{Kind: -1})
	for i, a := range all {
		for j, b := range all {
			if Equal(a, cloneEntry(b)) != (i == j) {
				fault(t, "%v and %v", a, b)
			}
		}
	}
	// nil and empty lists are the same, and spare room isn't asked.
	if !Equal(api.Entry{}, api.Entry{Payload: []byte{}, Sigs: []api.Sig{}}) || !Equal(api.Entry{Payload: make([]byte, 0, 9), Sigs: make([]api.Sig, 0, 9)}, api.Entry{}) {
		t.Error("nil and empty")
	}
	if !Equal(envelope("x", nil), envelope("x", []byte{})) || Equal(envelope("x", nil), envelope("x", []byte{0})) {
		t.Error("nil and empty payloads")
	}
}

// TestEqualAsTexts: entries are the same just if their texts are.
func TestEqualAsTexts(t *testing.T) {
	same := 0
	for seed := range 3000 {
		a, b := someEntry(rand.New(rand.NewSource(int64(seed)))), someEntry(rand.New(rand.NewSource(int64(seed))))
		chance := rand.New(rand.NewSource(int64(-seed - 1)))
		if len(b.Sigs) > 1 && seed%2 == 0 {
			all := places()
			all[chance.Intn(len(all))](&b)
		}
		if Equal(a, b) != sameEntry(a, b) {
			fault(t, "%v and %v", a, b)
		}
		first, err := Put(a)
		second, other := Put(b)
		if err == nil && other == nil && Equal(a, b) != (string(first) == string(second)) {
			fault(t, "%v and %v: %.300s and %.300s", a, b, first, second)
		}
		if Equal(a, b) {
			same++
		}
	}
	if same < 1000 || same > 2500 {
		t.Error("too few of one sort:", same)
	}
}
