package admit

import (
	"math/rand"
	"slices"
	"testing"

	"cachet/api"
)

// Submissions in disorder, against the chapter's words done another way (P18.1 to P18.3).

// TestAllRows has all rows of three submissions at most, out of some that hang on one another.
func TestAllRows(t *testing.T) {
	var all []api.Entry
	for n := 1; n <= 2; n++ {
		all = append(all, bindOf("alice", n), rotateOf("alice", 3-n, n), revokeOf("alice", n), artifact(1, name("alice", n)), artifact(1, own(n)))
	}
	all = append(all, bindOf("bob", 1), rotateOf("alice", 2, 3), artifact(2, name("alice", 1), own(3)))
	answers := map[error]int{}
	var goOn func(g *Gate, p plain)
	goOn = func(g *Gate, p plain) {
		for _, e := range all {
			_, want := p.ask(text(e))
			answers[want]++
			h := g.Copy()
			q := submitted(t, h, p, text(e), want)
			if want == nil && len(q) < 3 {
				goOn(h, q)
			}
			same(t, g, p)
		}
	}
	goOn(New(), nil)
	for _, err := range []error{nil, api.ErrTwice, api.ErrKey, api.ErrSig} {
		if answers[err] < 15 {
			t.Error(err, answers[err])
		}
	}
}

// someSigner is an identity or a key, mostly one that is there and signs by its own.
func someSigner(chance *rand.Rand, p plain) signer {
	n := chance.Intn(6)
	seed := n
	if chance.Intn(10) == 0 {
		seed = chance.Intn(6)
	}
	if chance.Intn(2) == 0 {
		return as(n, seed)
	}
	who := people[chance.Intn(3)]
	return name(who, seedOf(chance, p, who, seed))
}

// seedOf is mostly the seed of the key that an identity has.
func seedOf(chance *rand.Rand, p plain, who string, other int) int {
	k, _ := p.now(who)
	for n := range manyKeys {
		if k == key(n) && chance.Intn(8) > 0 {
			return n
		}
	}
	return other
}

// someEntry is an entry out of few identities, keys and bodies, mostly signed as it must be.
func someEntry(chance *rand.Rand, p plain) api.Entry {
	if len(p) > 0 && chance.Intn(10) == 0 {
		return p[chance.Intn(len(p))]
	}
	who := people[chance.Intn(3)]
	old, n := seedOf(chance, p, who, chance.Intn(6)), chance.Intn(manyKeys)
	var e api.Entry
	switch chance.Intn(6) {
	case 0:
		e = bindOf(who, n)
	case 1:
		e = rotateOf(who, old, n)
	case 2:
		e = revokeOf(who, old)
	default:
		by := []signer{name(who, old)}
		if chance.Intn(3) > 0 {
			by = []signer{someSigner(chance, p)}
		}
		if more := someSigner(chance, p); chance.Intn(3) == 0 && plainSigner(more.sig) != plainSigner(by[0].sig) {
			by = append(by, more)
		}
		bodies := []api.Entry{artifact(chance.Intn(20)), envelope("t", people[chance.Intn(4)]), statement(about)}
		e = signed(bodies[chance.Intn(3)], by...)
	}
	switch chance.Intn(20) {
	case 0:
		e = changed(e, chance.Intn(len(e.Sigs)), flip(chance.Intn(512)))
	case 1:
		e.Sigs = append(e.Sigs[:0:0], e.Sigs[1:]...)
	case 2:
		e.Sigs = []api.Sig{artifact(1, own(n)).Sigs[0]}
	}
	return e
}

// someText is mostly an entry's text, or a text of it that isn't its own one, and now and then none.
func someText(t *testing.T, chance *rand.Rand, e api.Entry) []byte {
	if !isEntry(e) {
		return []byte("{}")
	}
	b := text(e)
	switch chance.Intn(12) {
	case 0, 1:
		b = loose(t, e)[chance.Intn(5)]
	case 2:
		b[chance.Intn(len(b))] ^= 1 << chance.Intn(8)
	case 3:
		b = b[:chance.Intn(len(b))]
	case 4:
		b = append(b, make([]byte, 4097)...)
	}
	return b
}

// TestInNoOrder asks, submits to and takes into gates that are copied from one another, and asks what each of them holds.
func TestInNoOrder(t *testing.T) {
	rows := 60
	if testing.Short() {
		rows = 10
	}
	answers := map[error]int{}
	for seed := range rows {
		chance := rand.New(rand.NewSource(int64(seed)))
		gates, all := []*Gate{New()}, []plain{nil}
		for range 50 {
			i := chance.Intn(len(gates))
			if chance.Intn(15) == 0 {
				gates, all = append(gates, gates[i].Copy()), append(all, slices.Clone(all[i]))
			}
			e := someEntry(chance, all[i])
			if chance.Intn(6) == 0 {
				all[i] = takes(t, gates[i], all[i], e, all[i].take(e))
				continue
			}
			b := someText(t, chance, e)
			_, want := all[i].ask(b)
			answers[want]++
			if chance.Intn(5) == 0 {
				asked(t, gates[i], all[i], b, want)
			} else {
				all[i] = submitted(t, gates[i], all[i], b, want)
			}
		}
		for i, g := range gates {
			same(t, g, all[i])
		}
	}
	for _, err := range []error{nil, api.ErrForm, api.ErrSize, api.ErrKind, api.ErrTwice, api.ErrKey, api.ErrSig} {
		if answers[err] < rows/3 {
			t.Error("too few of one sort:", err, answers)
		}
	}
}
