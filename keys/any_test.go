package keys

import (
	"fmt"
	"math/rand"
	"slices"
	"strings"
	"testing"

	"cachet/api"
	"cachet/entry"
)

// Entries and texts in disorder, against the chapter's words done another way (P16.1, P16.2).

// someSigs are signatures, mostly as they must be, out of few signers.
func someSigs(chance *rand.Rand) []api.Sig {
	all := []string{"alice", "a", "bob", "key", "key.", "sha256", "zoe", "id", strings.Repeat("n", 64)}
	var out []api.Sig
	for range 1 + chance.Intn(8) {
		s := byKey(chance.Intn(8))
		if chance.Intn(2) == 0 {
			s = byName(all[chance.Intn(len(all))])
		}
		s.Sig = wide(chance.Intn(256))
		out = append(out, s)
	}
	if chance.Intn(20) > 0 {
		slices.SortFunc(out, func(a, b api.Sig) int { return strings.Compare(entry.Signer(a), entry.Signer(b)) })
		out = slices.CompactFunc(out, func(a, b api.Sig) bool { return entry.Signer(a) == entry.Signer(b) })
	}
	return out
}

// someEntry is an entry, perhaps with a fault, out of few digests, keys and identities, so that many stand twice.
func someEntry(chance *rand.Rand) api.Entry {
	e := api.Entry{Kind: 1 + chance.Intn(4), Sigs: someSigs(chance)}
	switch e.Kind {
	case api.Artifact:
		e.Digest = digest(chance.Intn(8))
	case api.Envelope:
		e.Type, e.Payload = "t", row(chance.Intn(8), chance.Intn(3))
	case api.Statement:
		var all []string
		for range 1 + chance.Intn(16) {
			all = append(all, figures(chance.Intn(8)))
		}
		e.Payload = []byte(about(all...))
		if chance.Intn(10) == 0 {
			e.Payload[chance.Intn(len(e.Payload))] = ` "1a}{[],:`[chance.Intn(10)]
		}
	case api.Binding:
		e.Op, e.Identity = 1+chance.Intn(3), []string{"alice", "bob", "key", "zz"}[chance.Intn(4)]
		if e.Op != api.Revoke || chance.Intn(20) == 0 {
			e.Key = key(chance.Intn(8))
		}
	}
	if chance.Intn(30) == 0 {
		e.Kind = chance.Intn(7) - 1
	}
	return e
}

func TestAnyEntry(t *testing.T) {
	good, bad := 0, 0
	for seed := range 4000 {
		chance := rand.New(rand.NewSource(int64(seed)))
		e := someEntry(chance)
		if entry.Check(e) != nil {
			bad++
			isNone(t, e)
			continue
		}
		good++
		want := plainOf(e)
		has(t, e, want...)
		if d, err := Leaf(e); len(plainText(e)) > 4096 && (err != api.ErrSize || d != api.Sum{}) || len(plainText(e)) <= 4096 && (err != nil || d != plainLeaf(plainText(e))) {
			t.Errorf("%.300s: %x, %v", fmt.Sprint(e), d, err)
		}
		var watched []string
		for range chance.Intn(4) {
			watched = append(watched, []string{"id:alice", "id:bob", "id:zoe", "zoe", "", Key(key(chance.Intn(8))), Digest(digest(chance.Intn(8)))}[chance.Intn(7)])
		}
		meets := slices.ContainsFunc(want, func(k string) bool { return slices.Contains(watched, k) })
		if Meets(e, watched...) != meets {
			t.Errorf("%.300s meets %q: %v", fmt.Sprint(e), watched, !meets)
		}
		for i := range e.Sigs {
			e.Sigs[i].Sig = wide(chance.Intn(256))
		}
		has(t, e, want...)
	}
	if good < 2000 || bad < 200 {
		t.Error("too few of one sort:", good, bad)
	}
}

// TestAnyText turns bytes of keys.
func TestAnyText(t *testing.T) {
	good, bad := 0, 0
	for seed := range 20000 {
		chance := rand.New(rand.NewSource(int64(seed)))
		text := []byte([]string{"id:alice", "id:" + strings.Repeat("n", 63), "key:" + figures(seed), "sha256:" + figures(seed), "id:a", "key:" + figures(seed)[1:]}[chance.Intn(6)])
		for range chance.Intn(3) {
			at := chance.Intn(len(text))
			sign := "0af:gAZ .-_@\xff"[chance.Intn(13)]
			switch chance.Intn(3) {
			case 0:
				text[at] = sign
			case 1:
				text = slices.Delete(text, at, at+1)
			case 2:
				text = slices.Insert(text, at, sign)
			}
		}
		want := plainKeys.Match(text)
		is(t, want, string(text))
		if want {
			good++
		} else {
			bad++
		}
	}
	if good < 4000 || bad < 4000 {
		t.Error("too few of one sort:", good, bad)
	}
}
