package keys

import (
	"fmt"
	"slices"
	"strings"
	"testing"

	"cachet/api"
	"cachet/entry"
)

// P16.1 and P16.2: the keys of entries.

func TestExample(t *testing.T) {
	has(t, artifact(3, byName("alice")), "id:alice", "sha256:"+figures(3))
	has(t, api.Entry{Kind: api.Artifact, Sigs: []api.Sig{{Identity: "alice"}}}, "id:alice", "sha256:"+noughts)
}

// body is an entry without signatures, and its keys written out.
type body struct {
	e    api.Entry
	want []string
}

func bodies() []body {
	one, two := about(figures(1)), about(figures(2), figures(3))
	return []body{
		{artifact(9), []string{"sha256:" + figures(9)}},
		{api.Entry{Kind: api.Artifact}, []string{"sha256:" + noughts}},
		{envelope("hello"), []string{"sha256:2cf24dba5fb0a30e26e83b2ac5b9e29e1b161e5c1fa7425e73043362938b9824"}},
		{envelope(""), []string{"sha256:e3b0c44298fc1c149afbf4c8996fb92427ae41e4649b934ca495991b7852b855"}},
		{envelope(one), []string{hash(one)}},
		{envelope(strings.Repeat("p", 2048)), []string{hash(strings.Repeat("p", 2048))}},
		{statement(one), []string{hash(one), "sha256:" + figures(1)}},
		{statement(two), []string{hash(two), "sha256:" + figures(2), "sha256:" + figures(3)}},
		{statement(" " + one + "\n"), []string{hash(" " + one + "\n"), "sha256:" + figures(1)}},
		{binding(api.Bind, "bob", key(4)), []string{"id:bob", "key:" + figures(4)}},
		{binding(api.Rotate, "bob", key(4)), []string{"id:bob", "key:" + figures(4)}},
		{binding(api.Bind, "bob", api.Key{}), []string{"id:bob", "key:" + noughts}},
		{binding(api.Rotate, "bob", api.Key{}), []string{"id:bob", "key:" + noughts}},
		{binding(api.Revoke, "bob", api.Key{}), []string{"id:bob"}},
	}
}

// TestKindsAndSigners has each kind signed by one and by eight, by identities, by keys and by both.
func TestKindsAndSigners(t *testing.T) {
	var eight, mixed []string
	for i := range 8 {
		eight = append(eight, fmt.Sprintf("id:signer%d", i))
	}
	held := func(from, n int) (out []string) {
		for i := range n {
			out = append(out, "key:"+figures(from+i))
		}
		return out
	}
	mixed = append([]string{"id:a0", "id:a1", "id:zoe"}, held(2, 5)...)
	for _, c := range []struct {
		sigs []api.Sig
		want []string
	}{
		{names(1), eight[:1]},
		{names(8), eight},
		{holders(1), held(20, 1)},
		{holders(8), held(20, 8)},
		{both(2), []string{"key:" + figures(0), "id:zoe"}},
		{both(8), mixed},
		{[]api.Sig{{}}, []string{"key:" + noughts}},
		{[]api.Sig{byName("key"), byName("key."), byKey(1)}, []string{"id:key", "id:key.", "key:" + figures(1)}},
		{[]api.Sig{byName(strings.Repeat("n", 64))}, []string{"id:" + strings.Repeat("n", 64)}},
	} {
		for _, b := range bodies() {
			e := b.e
			e.Sigs = c.sigs
			want := slices.Concat(c.want, b.want)
			slices.Sort(want)
			has(t, e, slices.Compact(want)...)
		}
	}
}

// TestTwice: a key that would stand twice stands once.
func TestTwice(t *testing.T) {
	for _, op := range []int{api.Bind, api.Rotate} {
		has(t, binding(op, "bob", key(4), byName("bob")), "id:bob", "key:"+figures(4))
		has(t, binding(op, "bob", key(4), byKey(4)), "id:bob", "key:"+figures(4))
		has(t, binding(op, "bob", key(4), byName("bob"), byKey(4)), "id:bob", "key:"+figures(4))
		has(t, binding(op, "bob", api.Key{}, byName("bob"), api.Sig{}), "id:bob", "key:"+noughts)
		has(t, binding(op, "zoe", key(4), byKey(4), byKey(5), byName("zoe")), "id:zoe", "key:"+figures(4), "key:"+figures(5))
	}
	has(t, binding(api.Revoke, "bob", api.Key{}, byName("bob")), "id:bob")
	has(t, binding(api.Revoke, "bob", api.Key{}, byName("bob"), byKey(4)), "id:bob", "key:"+figures(4))
	has(t, binding(api.Revoke, "bob", api.Key{}, api.Sig{}), "id:bob", "key:"+noughts)
	for _, all := range [][]string{{figures(1), figures(1)}, {figures(1), figures(2), figures(1)}, {figures(2), figures(1), figures(1)}, {figures(2), figures(2), figures(1), figures(1), figures(2)}} {
		text := about(all...)
		want := []string{"id:alice", hash(text)}
		for _, f := range all {
			want = append(want, "sha256:"+f)
		}
		slices.Sort(want)
		has(t, statement(text, byName("alice")), slices.Compact(want)...)
	}
	text := about(slices.Repeat([]string{figures(1)}, 16)...)
	want := []string{"id:alice", "sha256:" + figures(1), hash(text)}
	slices.Sort(want)
	has(t, statement(text, byName("alice")), want...)
}

// TestRising: no statement is known that tells its own payload's digest, so that such a key's standing once is asked where the keys are put together.
func TestRising(t *testing.T) {
	a, b := Digest(digest(1)), Digest(digest(2))
	for _, c := range []struct{ in, want []string }{
		{nil, nil},
		{[]string{a}, []string{a}},
		{[]string{a, a}, []string{a}},
		{[]string{b, a, b}, []string{a, b}},
		{[]string{a, "key:x", "id:x", b, a, "id:x", "key:x"}, []string{"id:x", "key:x", a, b}},
	} {
		if got := rising(slices.Clone(c.in)); !slices.Equal(got, c.want) {
			t.Errorf("%q: %q", c.in, got)
		}
	}
}

// TestSharedDigest: what a statement is about is found by the digest of the envelope's payload, and of the artifact.
func TestSharedDigest(t *testing.T) {
	k := hash("hello")
	about := statement(about(strings.TrimPrefix(k, "sha256:")), byName("alice"))
	made := artifact(0, byName("alice"))
	made.Digest = [32]byte(hexOf(t, strings.TrimPrefix(k, "sha256:")))
	for i, e := range []api.Entry{about, made, envelope("hello", byName("alice"))} {
		if got, err := Of(e); err != nil || !slices.Contains(got, k) || !Meets(e, k) {
			t.Error(i, got, err)
		}
	}
}

func TestSubjects(t *testing.T) {
	for n := 1; n <= 16; n++ {
		var all []string
		for i := range n {
			all = append(all, figures(200-11*i))
		}
		text := about(all...)
		want := []string{"key:" + figures(1), hash(text)}
		for _, f := range all {
			want = append(want, "sha256:"+f)
		}
		slices.Sort(want)
		if len(want) != n+2 {
			t.Fatal(len(want))
		}
		has(t, statement(text, byKey(1)), want...)
	}
	isNone(t, statement(about(), byKey(1)), statement(about(slices.Repeat([]string{figures(1)}, 17)...), byKey(1)))
}

// TestOrder: id: is ahead of key:, and that ahead of sha256:, whatever stands behind them.
func TestOrder(t *testing.T) {
	f, a := strings.Repeat("ff", 32), strings.Repeat("00", 32)
	all := []api.Sig{byName("0"), byName("key"), {Key: api.Key{}}, {Key: api.Key(hexOf(t, f))}, byName("sha256"), byName("zzz")}
	has(t, api.Entry{Kind: api.Artifact, Sigs: all}, "id:0", "id:key", "id:sha256", "id:zzz", "key:"+a, "key:"+f, "sha256:"+a)
	// Identities by their bytes: - . 0 @ _ a, and a beginning ahead of what it begins.
	var sigs []api.Sig
	for _, name := range []string{"-", ".", "0", "@", "_", "a", "a-", "aa"} {
		sigs = append(sigs, byName(name))
	}
	has(t, artifact(1, sigs...), "id:-", "id:.", "id:0", "id:@", "id:_", "id:a", "id:a-", "id:aa", "sha256:"+figures(1))
	// A binding's identity stands where its bytes put it, ahead of, among and behind the signers.
	for name, at := range map[string]int{"-": 0, "m": 1, "zz": 2} {
		got, err := Of(binding(api.Revoke, name, api.Key{}, byName("a"), byName("z")))
		if err != nil || len(got) != 3 || got[at] != "id:"+name {
			t.Error(name, got, err)
		}
	}
}

// TestSigBytes: keys stay the same where only a signature's bytes are others (P16.2); leaves don't.
func TestSigBytes(t *testing.T) {
	for i, e := range entries() {
		want, err := Of(e)
		if err != nil {
			t.Fatal(i, err)
		}
		first, err := Leaf(e)
		if err != nil {
			t.Fatal(i, err)
		}
		for n := range e.Sigs {
			for _, w := range []api.Wide{{}, wide(99), {63: 1}} {
				other := cloneEntry(e)
				other.Sigs[n].Sig = w
				has(t, other, want...)
				if d, err := Leaf(other); err != nil || (d == first) != (w == e.Sigs[n].Sig) {
					t.Errorf("%d, %d: leaf %x, %v", i, n, d, err)
				}
			}
		}
	}
}

// TestNoSize: an entry whose text is too long for a log has keys still, since only Leaf asks for the text.
func TestNoSize(t *testing.T) {
	e := sized(4097)
	if _, err := entry.Put(e); err != api.ErrSize {
		t.Fatal(err)
	}
	has(t, e, plainOf(e)...)
	if !Meets(e, hash(string(e.Payload))) {
		t.Error("meets nothing")
	}
}

func TestNoEntries(t *testing.T) {
	isNone(t, api.Entry{}, api.Entry{Sigs: names(1)})
	for _, kind := range []int{-1, 0, 5, 6, 1 << 40, -1 << 63} {
		isNone(t, api.Entry{Kind: kind, Sigs: names(1)}, api.Entry{Kind: kind, Digest: digest(1), Payload: []byte("a"), Identity: "bob", Sigs: names(1)})
	}
	// Each kind with something that it hasn't.
	for _, b := range bodies() {
		for _, spoil := range []func(*api.Entry){
			func(e *api.Entry) { e.Digest[31]++ },
			func(e *api.Entry) { e.Type += "cachet/" },
			func(e *api.Entry) { e.Payload = append(e.Payload, make([]byte, 2049)...) },
			func(e *api.Entry) { e.Op += 3 },
			func(e *api.Entry) { e.Op = -1 },
			func(e *api.Entry) { e.Identity += "Bob" },
			func(e *api.Entry) { e.Key[31]++ },
			func(e *api.Entry) { e.Kind = 9 - e.Kind },
		} {
			e := cloneEntry(b.e)
			e.Sigs = names(1)
			spoil(&e)
			if fits(e) {
				continue
			}
			isNone(t, e)
		}
	}
	isNone(t,
		statement("", names(1)...), statement("{}", names(1)...), statement("hello", names(1)...), statement(about(figures(1))+" x", names(1)...),
		statement(about(strings.ToUpper(figures(3))), names(1)...), statement(about(figures(1)[1:]), names(1)...),
		statement(about(figures(1))+strings.Repeat(" ", 2048), names(1)...),
		envelope(strings.Repeat("p", 2049), names(1)...),
		api.Entry{Kind: api.Envelope, Payload: []byte("a"), Sigs: names(1)},
		api.Entry{Kind: api.Envelope, Type: "cachet/x", Payload: []byte("a"), Sigs: names(1)},
		binding(0, "bob", key(1), names(1)...), binding(4, "bob", key(1), names(1)...), binding(api.Bind, "", key(1), names(1)...), binding(api.Bind, "Bob", key(1), names(1)...), binding(api.Revoke, "bob", key(1), names(1)...), binding(api.Rotate, strings.Repeat("b", 65), key(1), names(1)...),
	)
}

// fits tells of what TestNoEntries spoils whether it is an entry still: one whose kind has what was changed.
func fits(e api.Entry) bool {
	switch e.Kind {
	case api.Artifact:
		return e.Type == "" && len(e.Payload) == 0 && e.Op == 0 && e.Identity == "" && e.Key == api.Key{}
	case api.Binding:
		return e.Digest == api.Sum{} && e.Type == "" && len(e.Payload) == 0 && e.Op < 3 && e.Op > 0 && e.Identity == "bob"
	case api.Envelope:
		return e.Type == "text/plaincachet/"
	}
	return false
}

func TestNoSigs(t *testing.T) {
	for _, b := range bodies() {
		e := b.e
		isNone(t, e)
		for _, sigs := range [][]api.Sig{
			{},
			append(names(8), byName("z")),
			append(holders(8), byName("z")),
			{byName("b"), byName("a")},
			{byKey(2), byKey(1)},
			{byKey(1), byName("a")},
			{byName("z"), byKey(1)},
			{byName("a"), byName("c"), byName("b")},
			{byName("a"), byName("a")},
			{byKey(1), byKey(1)},
			{byName("A")},
			{byName("a b")},
			{byName(strings.Repeat("n", 65))},
			{byName("key:" + figures(1))},
			{{Identity: "a", Key: key(1)}},
			{byName("a"), {Identity: "b", Key: key(1)}},
		} {
			e.Sigs = sigs
			isNone(t, e)
		}
	}
}
