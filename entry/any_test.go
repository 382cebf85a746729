package entry

import (
	"bytes"
	"encoding/base64"
	"math/rand"
	"slices"
	"strings"
	"testing"

	"cachet/api"
	"cachet/json"
)

// Entries, values and texts in disorder, against the chapter's words done another way (P15.1, P15.2).

var (
	someNames = []string{"alice", "a", "bob", "key", "key.", "key@", "keyz", "zoe", strings.Repeat("n", 64), "0", "-", "_", ".", "@"}
	oddNames  = []string{"", "A", "a b", "é", strings.Repeat("n", 65), "key:", "key:" + figures(0), "a\x00", "a/", "a~"}
	someTypes = []string{"x", "text/plain", strings.Repeat("t", 64), "cachet", "Cachet/x", "!~", `"\`, "<&>"}
	oddTypes  = []string{"", " ", "a b", "\x7f", "é", strings.Repeat("t", 65), "cachet/", "cachet/artifact", "a\n"}
)

func pick[T any](chance *rand.Rand, some, odd []T) T {
	if len(odd) > 0 && chance.Intn(25) == 0 {
		return odd[chance.Intn(len(odd))]
	}
	return some[chance.Intn(len(some))]
}

// someEntry is an entry, perhaps with a fault.
func someEntry(chance *rand.Rand) api.Entry {
	e := api.Entry{Kind: 1 + chance.Intn(4), Sigs: someSigs(chance)}
	switch e.Kind {
	case api.Artifact:
		e.Digest = digest(chance.Intn(256))
	case api.Envelope:
		e.Type = pick(chance, someTypes, oddTypes)
		e.Payload = row(chance.Intn(256), pick(chance, []int{0, 1, 2, 3, 100, 1700, 1900, 2047, 2048}, []int{2049, 5000}))
	case api.Statement:
		e.Payload = []byte(statement(subject("a", chance.Intn(256))))
		if chance.Intn(10) == 0 {
			at := chance.Intn(len(e.Payload))
			e.Payload[at] = ` "1a}{[],:`[chance.Intn(10)]
		}
	case api.Binding:
		e.Op = pick(chance, []int{1, 2, 3}, []int{0, 4, -1})
		e.Identity = pick(chance, someNames, oddNames)
		if e.Op != api.Revoke || chance.Intn(20) == 0 {
			e.Key = key(chance.Intn(256))
		}
	}
	switch chance.Intn(100) {
	case 0:
		e.Kind = chance.Intn(8) - 1
	case 1:
		e.Digest[chance.Intn(32)]++
	case 2:
		e.Type += "t"
	case 3:
		e.Payload = append(e.Payload, ' ')
	case 4:
		e.Op++
	case 5:
		e.Identity += "i"
	case 6:
		e.Key[chance.Intn(32)]++
	}
	return e
}

// someSigs are signatures, mostly as they must be.
func someSigs(chance *rand.Rand) []api.Sig {
	var out []api.Sig
	for range pick(chance, []int{1, 2, 3, 8}, []int{0, 9}) {
		s := api.Sig{Sig: wide(chance.Intn(256))}
		if chance.Intn(2) == 0 {
			s.Identity = pick(chance, someNames, nil)
			if chance.Intn(50) == 0 {
				s.Identity = pick(chance, oddNames, nil)
			}
		}
		if s.Identity == "" || chance.Intn(100) == 0 {
			s.Key = key(chance.Intn(256))
		}
		out = append(out, s)
	}
	if chance.Intn(20) > 0 {
		slices.SortFunc(out, func(a, b api.Sig) int { return strings.Compare(plainSigner(a), plainSigner(b)) })
		out = slices.CompactFunc(out, func(a, b api.Sig) bool { return plainSigner(a) == plainSigner(b) })
	}
	return out
}

// mixed is a value with its pairs in another order.
func mixed(chance *rand.Rand, v api.Value) api.Value {
	v = clone(v)
	for _, x := range parts(&v) {
		chance.Shuffle(len(x.Pairs), func(i, j int) { x.Pairs[i], x.Pairs[j] = x.Pairs[j], x.Pairs[i] })
	}
	return v
}

// turned is a value that is another one at one place.
func turned(chance *rand.Rand, v api.Value) api.Value {
	v = clone(v)
	all := parts(&v)
	x := all[chance.Intn(len(all))]
	words := []string{"", "artifact", "envelope", "statement", "binding", "bind", "rotate", "revoke", "alice", "AAAA", figures(1), "key:" + figures(1), base64.StdEncoding.EncodeToString(row(1, 64)), "A", "é", "\xff"}
	switch chance.Intn(9) {
	case 0:
		*x = txt(words[chance.Intn(len(words))])
	case 1:
		x.Text += words[chance.Intn(len(words))]
	case 2:
		x.Kind = chance.Intn(7)
	case 3:
		x.Int++
	case 4:
		if len(x.Pairs) > 0 {
			x.Pairs = x.Pairs[1:]
		}
	case 5:
		x.Pairs = append(x.Pairs, with(words[chance.Intn(len(words))], num(1)))
	case 6:
		if len(x.Pairs) > 0 {
			x.Pairs = append(x.Pairs, x.Pairs[0])
		}
	case 7:
		if len(x.Pairs) > 0 {
			x.Pairs[0].Name = []string{"kind", "sigs", "digest", "type", "payload", "identity", "op", "key", "by", "sig", ""}[chance.Intn(11)]
		}
	case 8:
		if len(x.List) > 0 {
			x.List = append(x.List, x.List[chance.Intn(len(x.List))])
		}
	}
	return v
}

func TestAnyEntry(t *testing.T) {
	good, bad := 0, 0
	for seed := range 6000 {
		chance := rand.New(rand.NewSource(int64(seed)))
		if holds(t, someEntry(chance)) {
			good++
		} else {
			bad++
		}
	}
	if good < 2000 || bad < 1000 {
		t.Error("too few of one sort:", good, bad)
	}
}

func TestAnyValue(t *testing.T) {
	good, bad := 0, 0
	for seed := range 5000 {
		chance := rand.New(rand.NewSource(int64(seed)))
		e := someEntry(chance)
		if !plainEntry(e) {
			continue
		}
		v := valueOf(t, e)
		if !holdsValue(t, mixed(chance, v)) {
			fault(t, "%v: its value isn't plainly one", e)
		}
		for range 3 {
			if holdsValue(t, turned(chance, mixed(chance, v))) {
				good++
			} else {
				bad++
			}
		}
	}
	if good < 300 || bad < 3000 {
		t.Error("too few of one sort:", good, bad)
	}
}

// TestAnyText turns bytes of entries' texts. What is parsed is put to a text that is parsed to the same, and put to the same (P15.2).
func TestAnyText(t *testing.T) {
	good, bad := 0, 0
	for seed := range 8000 {
		chance := rand.New(rand.NewSource(int64(seed)))
		e := someEntry(chance)
		text, err := Put(e)
		if err != nil {
			continue
		}
		for range chance.Intn(3) {
			at := chance.Intn(len(text))
			sign := " \"\\,:[]{}0aA=\n"[chance.Intn(14)]
			switch chance.Intn(3) {
			case 0:
				text[at] = sign
			case 1:
				text = slices.Delete(text, at, at+1)
			case 2:
				text = slices.Insert(text, at, sign)
			}
		}
		if holdsText(t, text) {
			good++
		} else {
			bad++
		}
	}
	if good < 1000 || bad < 1000 {
		t.Error("too few of one sort:", good, bad)
	}
}

// holdsText asks about a text, whatever it is.
func holdsText(t *testing.T, text []byte) bool {
	t.Helper()
	v, err := json.Parse(text)
	if err != nil {
		noText(t, err, string(text))
		return false
	}
	want, ok := plainOf(v)
	if !ok {
		noText(t, api.ErrKind, string(text))
		return false
	}
	got, err := Parse(text)
	if err != nil || !sameEntry(got, want) {
		fault(t, "%.300s: %v, %v", text, got, err)
		return true
	}
	once, err := Put(got)
	if err != nil || string(once) != plainText(want) {
		t.Errorf("%.300s: put %.300s, %v", text, once, err)
	}
	again, err := Parse(once)
	if err != nil || !sameEntry(again, got) {
		fault(t, "%.300s: again %v, %v", text, again, err)
	}
	if twice, err := Put(again); err != nil || !bytes.Equal(twice, once) {
		t.Errorf("%.300s: put again %.300s, %v", text, twice, err)
	}
	return true
}

func TestAnyStatement(t *testing.T) {
	good, bad := 0, 0
	for seed := range 8000 {
		chance := rand.New(rand.NewSource(int64(seed)))
		text := []byte(statement(subject("a", seed%7), subject("é", seed%5)))
		for range 1 + chance.Intn(2) {
			at := chance.Intn(len(text))
			sign := " \"\\,:[]{}0aA=\n/"[chance.Intn(15)]
			switch chance.Intn(3) {
			case 0:
				text[at] = sign
			case 1:
				text = slices.Delete(text, at, at+1)
			case 2:
				text = slices.Insert(text, at, sign)
			}
		}
		if holdsStatement(t, string(text)) {
			good++
		} else {
			bad++
		}
	}
	if good < 300 || bad < 1000 {
		t.Error("too few of one sort:", good, bad)
	}
}

// holdsStatement asks about a payload, whatever it is.
func holdsStatement(t *testing.T, payload string) bool {
	t.Helper()
	want, ok := plainSubjects([]byte(payload))
	got, err := Subjects([]byte(payload))
	e := api.Entry{Kind: api.Statement, Payload: []byte(payload), Sigs: []api.Sig{byName("alice")}}
	if holds(t, e) != ok {
		t.Errorf("%.300q: another entry", payload)
	}
	if !ok && (err != api.ErrKind || len(got) > 0) {
		fault(t, "Subjects of %.300q: %v, %v", payload, got, err)
	}
	if ok && (err != nil || !slices.Equal(got, want)) {
		fault(t, "Subjects of %.300q: %v, %v", payload, got, err)
	}
	return ok
}
