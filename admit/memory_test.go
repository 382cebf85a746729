package admit

import (
	"bytes"
	"slices"
	"testing"

	"cachet/api"
)

// P18.4: what is handed in is neither changed nor kept, and answers are new memory.

// roomy is a copy of a text with room behind it, in which something stands.
func roomy(b []byte) []byte {
	return append(bytes.Clone(b), "behind"...)[:len(b)]
}

// over writes over a text, and over the room behind it.
func over(b []byte) {
	b = b[:cap(b)]
	for i := range b {
		b[i] = '!'
	}
}

// overEntry writes over the lists of an entry, and over the room behind them.
func overEntry(e api.Entry) {
	over(e.Payload)
	all := e.Sigs[:cap(e.Sigs)]
	for i := range all {
		all[i] = api.Sig{Identity: "over", Key: key(9), Sig: api.Wide{1}}
	}
}

// submissions are of each kind; alice has key 1.
func submissions() []api.Entry {
	return append(kinds(name("alice", 1), own(2)), bindOf("bob", 3), rotateOf("alice", 1, 4), revokeOf("alice", 1))
}

func TestAskIsApart(t *testing.T) {
	g, p := gateOf(t, bindOf("alice", 1))
	for _, e := range submissions() {
		for _, b := range [][]byte{text(e), append(text(e), ' ')} {
			handed := roomy(b)
			first, own, err := g.Ask(handed)
			second, again, err2 := g.Ask(handed)
			if err != nil || err2 != nil || !bytes.Equal(handed, b) || string(handed[len(b):len(b)+6]) != "behind" {
				t.Fatalf("%.400q: %v, %v, or changed", b, err, err2)
			}
			over(own)
			overEntry(first)
			if !sameEntry(second, e) || !bytes.Equal(again, text(e)) || !bytes.Equal(handed, b) {
				t.Fatalf("%.400q: answers share memory", b)
			}
			over(handed)
			if !sameEntry(second, e) || !bytes.Equal(again, text(e)) {
				t.Fatalf("%.400q: an answer shares memory with what was handed in", b)
			}
			// The text and the entry of one answer share none.
			over(again)
			if !sameEntry(second, e) {
				t.Fatalf("%.400q: entry and text share memory", b)
			}
			overEntry(second)
			asked(t, g, p, b, nil)
		}
	}
}

func TestSubmitIsApart(t *testing.T) {
	base, row := gateOf(t, bindOf("alice", 1))
	for _, e := range submissions() {
		g, p := base.Copy(), slices.Clone(row)
		handed := roomy(append(text(e), ' '))
		at, own, err := g.Submit(handed)
		if at != 1 || err != nil || !bytes.Equal(handed, append(text(e), ' ')) || string(handed[len(handed):len(handed)+6]) != "behind" {
			t.Fatalf("%d, %v", at, err)
		}
		p = append(p, e)
		over(handed)
		if !bytes.Equal(own, text(e)) {
			t.Fatalf("the answer shares memory with what was handed in: %q", own)
		}
		over(own)
		same(t, g, p)
		p = submitted(t, g, p, text(e), api.ErrTwice)
		submitted(t, g, p, text(artifact(99, holders(p)...)), nil)
		same(t, base, row)
	}
}

// holders are those who may sign behind the submissions: each identity that has a key, and each key of those that isn't spent.
func holders(p plain) []signer {
	var all []signer
	for _, who := range []string{"alice", "bob"} {
		for n := range manyKeys {
			if k, ok := p.now(who); ok && k == key(n) {
				all = append(all, name(who, n), own(n))
			}
		}
	}
	return append(all, own(7))
}

func TestTakeIsApart(t *testing.T) {
	g, p := New(), plain(nil)
	for _, e := range []api.Entry{artifact(1, own(1)), envelope("t", "payload", own(1), name("zoe", 5)), bindOf("alice", 1), statement(about, name("alice", 1)), rotateOf("alice", 1, 2), bindOf("alice", 3), {Payload: []byte("p")}, revokeOf("alice", 2), bindOf("alice", 3)} {
		handed := cloneEntry(e)
		handed.Payload = roomy(e.Payload)
		handed.Sigs = append(slices.Clone(e.Sigs), api.Sig{Identity: "behind"})[:len(e.Sigs)]
		want := p.take(e)
		p = takes(t, g, p, handed, want)
		if string(handed.Payload[:len(e.Payload)+6][len(e.Payload):]) != "behind" || handed.Sigs[:len(e.Sigs)+1][len(e.Sigs)].Identity != "behind" {
			t.Fatal("changed behind its lists")
		}
		overEntry(handed)
		same(t, g, p)
		if want == nil {
			want = api.ErrTwice
		}
		takes(t, g, p, e, want)
	}
	if len(p) != 7 {
		t.Error(len(p))
	}
}

// TestTableIsApart: histories that were answered share nothing with the gate.
func TestTableIsApart(t *testing.T) {
	g, p := gateOf(t, bindOf("alice", 1), rotateOf("alice", 1, 2))
	all := g.Table().History("alice")
	for i := range all {
		all[i].Key, all[i].At = key(9), -1
	}
	same(t, g, p)
	submitted(t, g, p, text(revokeOf("alice", 2)), nil)
}
