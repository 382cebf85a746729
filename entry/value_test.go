package entry

import (
	"encoding/base64"
	"math/rand"
	"slices"
	"strings"
	"testing"

	"cachet/api"
	"cachet/json"
)

// P15.1: entries' values.

// signature is the base64 of a signature.
func signature(n int) string { return base64.StdEncoding.EncodeToString(row(n, 64)) }

// signed is the value of signatures by some texts.
func signed(by ...string) api.Pair {
	all := list()
	for _, s := range by {
		all.List = append(all.List, pairs(with("by", txt(s)), with("sig", txt(signature(len(s))))))
	}
	return with("sigs", all)
}

// TestValues has values written out; they are the same as those that are answered, pairs in any order.
func TestValues(t *testing.T) {
	payload := statement(subject("a", 1))
	for i, c := range []struct {
		e api.Entry
		v api.Value
	}{
		{artifact(byName("alice")), pairs(with("kind", txt("artifact")), signed("alice"), with("digest", txt(figures(1))))},
		{api.Entry{Kind: api.Artifact, Sigs: []api.Sig{byName("a"), byName("bb")}}, pairs(with("kind", txt("artifact")), signed("a", "bb"), with("digest", txt(strings.Repeat("0", 64))))},
		{envelope("text/plain", []byte("a")), pairs(with("kind", txt("envelope")), signed("alice"), with("type", txt("text/plain")), with("payload", txt("YQ==")))},
		{envelope("x", nil), pairs(with("kind", txt("envelope")), signed("alice"), with("type", txt("x")), with("payload", txt("")))},
		{api.Entry{Kind: api.Statement, Payload: []byte(payload), Sigs: []api.Sig{byName("a")}}, pairs(with("kind", txt("statement")), signed("a"), with("payload", txt(base64.StdEncoding.EncodeToString([]byte(payload)))))},
		{api.Entry{Kind: api.Binding, Op: api.Bind, Identity: "bob", Key: key(4), Sigs: []api.Sig{byName("bob")}}, pairs(with("kind", txt("binding")), signed("bob"), with("identity", txt("bob")), with("op", txt("bind")), with("key", txt(figures(4))))},
		{api.Entry{Kind: api.Binding, Op: api.Rotate, Identity: "bob", Sigs: []api.Sig{byName("bob")}}, pairs(with("kind", txt("binding")), signed("bob"), with("identity", txt("bob")), with("op", txt("rotate")), with("key", txt(strings.Repeat("0", 64))))},
		{api.Entry{Kind: api.Binding, Op: api.Revoke, Identity: "bob", Sigs: []api.Sig{byName("bob")}}, pairs(with("kind", txt("binding")), signed("bob"), with("identity", txt("bob")), with("op", txt("revoke")))},
	} {
		if v, err := Value(c.e); err != nil || !json.Equal(v, c.v) {
			t.Errorf("%d: %v, %v", i, v, err)
		}
		if e, err := Of(c.v); err != nil || !sameEntry(e, c.e) {
			t.Errorf("%d: %v, %v", i, e, err)
		}
	}
}

func TestPairsInAnyOrder(t *testing.T) {
	for i, e := range entries() {
		for seed := range 20 {
			v := mixed(rand.New(rand.NewSource(int64(seed))), valueOf(t, e))
			if got, err := Of(v); err != nil || !sameEntry(got, e) {
				t.Errorf("%d: %v: %v, %v", i, v, got, err)
			}
		}
	}
}

// change calls a function on each object within the value of each entry, and asks that the value is no entry's any more.
func change(t *testing.T, all []api.Entry, turn func(o *api.Value, i int) bool) {
	t.Helper()
	changed := 0
	for _, e := range all {
		whole := valueOf(t, e)
		for n := range parts(&whole) {
			for i := range 6 {
				v := clone(whole)
				if turn(parts(&v)[n], i) {
					changed++
					noValue(t, v)
				}
			}
		}
	}
	if changed < 10 {
		t.Error("too few were changed:", changed)
	}
}

func TestNameMissing(t *testing.T) {
	change(t, entries(), func(o *api.Value, i int) bool {
		if i >= len(o.Pairs) {
			return false
		}
		o.Pairs = slices.Delete(o.Pairs, i, i+1)
		return true
	})
}

func TestNameTooMany(t *testing.T) {
	names := []string{"x", "", "Kind", "kind ", "sig", "by"}
	change(t, entries(), func(o *api.Value, i int) bool {
		if _, there := json.Get(*o, names[i]); there || o.Kind != api.Object {
			return false
		}
		o.Pairs = append(o.Pairs, with(names[i], txt("a")))
		return true
	})
	// A name of another kind of entry is one too many, too.
	for _, e := range entries() {
		for _, p := range []api.Pair{with("digest", txt(figures(1))), with("type", txt("x")), with("payload", txt("")), with("identity", txt("bob")), with("op", txt("bind")), with("key", txt(figures(1)))} {
			v := valueOf(t, e)
			if _, there := json.Get(v, p.Name); !there {
				v.Pairs = append(v.Pairs, p)
				noValue(t, v)
			}
		}
	}
}

func TestNameTwice(t *testing.T) {
	change(t, entries(), func(o *api.Value, i int) bool {
		if i >= len(o.Pairs) {
			return false
		}
		o.Pairs = append(o.Pairs, o.Pairs[i])
		return true
	})
	// Instead of another one, so that their count is right.
	change(t, entries(), func(o *api.Value, i int) bool {
		if i >= len(o.Pairs) || len(o.Pairs) < 2 {
			return false
		}
		o.Pairs[i] = o.Pairs[(i+1)%len(o.Pairs)]
		return true
	})
}

func TestOtherName(t *testing.T) {
	change(t, entries(), func(o *api.Value, i int) bool {
		if i >= len(o.Pairs) {
			return false
		}
		o.Pairs[i].Name = strings.ToUpper(o.Pairs[i].Name)
		return true
	})
}

func TestOtherKindOfValue(t *testing.T) {
	change(t, entries(), func(o *api.Value, i int) bool {
		kind := o.Kind
		others := []api.Value{{}, {Kind: api.Bool, Int: 1}, num(1), txt("null"), list(clone(*o)), pairs(with("a", clone(*o)))}
		*o = others[i]
		return o.Kind != kind
	})
}

// TestSpareOfValue gives values what their kind doesn't need, and kinds that there aren't.
func TestSpareOfValue(t *testing.T) {
	change(t, entries(), func(o *api.Value, i int) bool {
		switch i {
		case 0:
			o.Int = 1
		case 1:
			o.List = append(o.List, api.Value{})
		case 2:
			o.Pairs = append(o.Pairs, with("spare", api.Value{}))
		case 3:
			o.Kind = 6
		case 4:
			o.Kind = -1
		case 5:
			if o.Kind == api.Text {
				return false
			}
			o.Text = "spare"
		}
		return true
	})
}

// TestWords: kinds and ops are told by just their words.
func TestWords(t *testing.T) {
	for _, e := range entries() {
		v := valueOf(t, e)
		for _, name := range []string{"kind", "op"} {
			at := slices.IndexFunc(v.Pairs, func(p api.Pair) bool { return p.Name == name })
			if at < 0 {
				continue
			}
			right := v.Pairs[at].Value.Text
			for _, word := range []string{"", "1", "0", " ", right + " ", " " + right, strings.ToUpper(right), right[:len(right)-1], right + right, "none", "kind", "null", "\x00"} {
				other := clone(v)
				other.Pairs[at].Value.Text = word
				noValue(t, other)
			}
		}
	}
	for _, op := range []string{"artifact", "envelope", "statement", "binding", "1", "3"} {
		noValue(t, pairs(with("kind", txt("binding")), signed("bob"), with("identity", txt("bob")), with("op", txt(op))), pairs(with("kind", txt("binding")), signed("bob"), with("identity", txt("bob")), with("op", txt(op)), with("key", txt(figures(4)))))
	}
	for _, kind := range []string{"bind", "rotate", "revoke", "envelope", "statement", "binding"} {
		noValue(t, pairs(with("kind", txt(kind)), signed("bob"), with("digest", txt(figures(1)))))
	}
}

func TestKeyOfBinding(t *testing.T) {
	bound := func(op string, more ...api.Pair) api.Value {
		return pairs(append([]api.Pair{with("kind", txt("binding")), signed("bob"), with("identity", txt("bob")), with("op", txt(op))}, more...)...)
	}
	noValue(t, bound("bind"), bound("rotate"), bound("revoke", with("key", txt(figures(4)))), bound("revoke", with("key", txt(strings.Repeat("0", 64)))), bound("revoke", with("key", txt(""))), bound("revoke", with("key", api.Value{})), bound("bind", with("key", api.Value{})), bound("bind", with("key", txt(""))))
	for _, v := range []api.Value{bound("bind", with("key", txt(figures(4)))), bound("rotate", with("key", txt(figures(4)))), bound("revoke")} {
		if !holdsValue(t, v) {
			t.Errorf("%v is none", v)
		}
	}
}

func TestHexOfValues(t *testing.T) {
	f := figures(0xa5)
	for _, wrong := range []string{"", f[:63], f[:62], f + "0", f + "00", strings.ToUpper(f), "A" + f[1:], f[:63] + "g", " " + f[1:], f + " ", "0x" + f[2:], f + f, "é" + f[2:], "key:" + f, "sha256:" + f, base64.StdEncoding.EncodeToString(row(1, 32))} {
		noValue(t,
			pairs(with("kind", txt("artifact")), signed("bob"), with("digest", txt(wrong))),
			pairs(with("kind", txt("binding")), signed("bob"), with("identity", txt("bob")), with("op", txt("bind")), with("key", txt(wrong))),
			pairs(with("kind", txt("binding")), signed("bob"), with("identity", txt("bob")), with("op", txt("rotate")), with("key", txt(wrong))),
			pairs(with("kind", txt("artifact")), signed("key:"+wrong), with("digest", txt(f))),
		)
	}
}

func TestBase64OfValues(t *testing.T) {
	for _, wrong := range []string{"Y", "YQ", "YQ=", "YR==", "YWK=", "Y===", "====", "YQ==YQ==", "YQ==\n", " YQ==", "Y Q=", "YQ-_", "!!!!", "é=="} {
		noValue(t, pairs(with("kind", txt("envelope")), signed("bob"), with("type", txt("x")), with("payload", txt(wrong))))
	}
	payload := statement(subject("a", 1))
	right := base64.StdEncoding.EncodeToString([]byte(padded(payload, len(payload)/3*3+4)))
	if !strings.HasSuffix(right, "==") || !holdsValue(t, pairs(with("kind", txt("statement")), signed("bob"), with("payload", txt(right)))) {
		t.Fatal(right)
	}
	for _, wrong := range []string{"", "YQ==", right[:len(right)-1], right + "=", right + "====", right + "\n", right[:len(right)-2], payload, base64.StdEncoding.EncodeToString([]byte("{}"))} {
		noValue(t, pairs(with("kind", txt("statement")), signed("bob"), with("payload", txt(wrong))))
	}
	s := signature(1)
	for _, wrong := range []string{"", s[:87], s[:84], s + "=", s[:86] + "=", s[:86], base64.StdEncoding.EncodeToString(row(1, 63)), base64.StdEncoding.EncodeToString(row(1, 65)), s + s, s + "\n", " " + s, s[:85] + "B==", strings.Repeat("=", 88), figures(1) + figures(1)} {
		noValue(t, pairs(with("kind", txt("artifact")), with("digest", txt(figures(1))), with("sigs", list(pairs(with("by", txt("bob")), with("sig", txt(wrong)))))))
	}
}

func TestPayloadOfValues(t *testing.T) {
	for _, n := range []int{0, 1, 2047, 2048, 2049, 2050, 2051, 4096} {
		v := pairs(with("kind", txt("envelope")), signed("bob"), with("type", txt("x")), with("payload", txt(base64.StdEncoding.EncodeToString(row(n, n)))))
		if holdsValue(t, v) != (n <= 2048) {
			t.Errorf("a payload of %d", n)
		}
	}
	for _, n := range []int{2047, 2048, 2049} {
		payload := padded(statement(subject("a", 1)), n)
		v := pairs(with("kind", txt("statement")), signed("bob"), with("payload", txt(base64.StdEncoding.EncodeToString([]byte(payload)))))
		if holdsValue(t, v) != (n <= 2048) {
			t.Errorf("a statement of %d", n)
		}
	}
}

func TestTypeAndIdentityOfValues(t *testing.T) {
	for _, c := range []struct {
		s             string
		isType, named bool
	}{{"", false, false}, {"a", true, true}, {"A", true, false}, {"a b", false, false}, {"cachet/a", false, false}, {"cachet", true, true}, {"\x7f", false, false}, {"é", false, false}, {"key:" + figures(1)[:60], true, false}, {strings.Repeat("a", 64), true, true}, {strings.Repeat("a", 65), false, false}} {
		v := pairs(with("kind", txt("envelope")), signed("bob"), with("type", txt(c.s)), with("payload", txt("")))
		if holdsValue(t, v) != c.isType {
			t.Errorf("%q is a type: %v", c.s, !c.isType)
		}
		v = pairs(with("kind", txt("binding")), signed("bob"), with("identity", txt(c.s)), with("op", txt("revoke")))
		if holdsValue(t, v) != c.named {
			t.Errorf("%q is a name: %v", c.s, !c.named)
		}
		v = pairs(with("kind", txt("artifact")), signed(c.s), with("digest", txt(figures(1))))
		if holdsValue(t, v) != c.named {
			t.Errorf("%q is a signer: %v", c.s, !c.named)
		}
	}
}

func TestSigsOfValues(t *testing.T) {
	by := func(all ...string) api.Value {
		return pairs(with("kind", txt("artifact")), with("digest", txt(figures(1))), signed(all...))
	}
	k := "key:" + figures(1)
	for _, v := range []api.Value{by("a"), by(k), by("a", "b"), by("a", k), by(k, "z"), by("key", k), by("key:" + strings.Repeat("0", 64)), by("0", "1", "2", "3", "4", "5", "6", "7")} {
		if !holdsValue(t, v) {
			t.Errorf("%v is none", v)
		}
	}
	noValue(t, by(), by("0", "1", "2", "3", "4", "5", "6", "7", "8"), by("a", "a"), by(k, k), by("b", "a"), by(k, "a"), by("z", k), by(""), by("key:"), by("key:a"), by("Key:"+figures(1)), by("id:alice"), by(figures(1)+"x"), by("a", "b", ""))
	one := pairs(with("by", txt("a")), with("sig", txt(signature(1))))
	whole := func(sigs api.Value) api.Value {
		return pairs(with("kind", txt("artifact")), with("digest", txt(figures(1))), with("sigs", sigs))
	}
	noValue(t, whole(one), whole(txt("a")), whole(api.Value{}), whole(list(list(one))), whole(list(one, api.Value{})), whole(list(txt("a"))), whole(list(pairs())), whole(list(num(1))))
}

func TestNoEntrysValue(t *testing.T) {
	noValue(t, api.Value{}, num(1), txt("artifact"), list(), pairs(), api.Value{Kind: api.Bool, Int: 1}, api.Value{Kind: 9}, pairs(with("kind", txt("artifact"))), pairs(signed("a")), pairs(with("kind", txt("artifact")), signed("a")), list(valueOf(t, entries()[0])), pairs(with("a", valueOf(t, entries()[0]))))
	deep := txt("a")
	for range 100 {
		deep = list(deep)
		noValue(t, deep, pairs(with("kind", deep)), pairs(with("kind", txt("artifact")), with("sigs", deep), with("digest", txt(figures(1)))))
	}
	// A pair's value that holds the whole is more than 8 deep.
	v := valueOf(t, entries()[0])
	v.Pairs[0].Value = v
	noValue(t, v)
	// An object's pairs count only in an object.
	v = valueOf(t, entries()[0])
	v.Kind = api.List
	noValue(t, v)
}

// TestLargeValue: of a value whose text is too long for Put there is an entry still.
func TestLargeValue(t *testing.T) {
	e := sized(4097)
	if _, err := Put(e); err != api.ErrSize {
		t.Error(err)
	}
	if back, err := Of(valueOf(t, e)); err != nil || !sameEntry(back, e) {
		t.Error(back, err)
	}
	noValue(t, pairs(with("kind", txt("envelope")), signed("a"), with("type", txt("x")), with("payload", txt(strings.Repeat("A", 1<<20)))))
	many := signed("a")
	for range 1 << 12 {
		many.Value.List = append(many.Value.List, many.Value.List[0])
	}
	noValue(t, pairs(with("kind", txt("artifact")), many, with("digest", txt(figures(1)))))
}
