package bind

import (
	"fmt"
	"math"
	"slices"
	"strings"
	"testing"

	"cachet/api"
	"cachet/entry"
)

// Short forms of what bindings are made of.

// key is a key that hangs on n; key 0 is that of noughts.
func key(n int) api.Key { return api.Key{byte(n), 31: byte(n)} }

// byName and byKey are signatures, whose bytes don't matter, as they are asked of no layer here.
func byName(name string) api.Sig { return api.Sig{Identity: name, Sig: api.Wide{7}} }

func byKey(n int) api.Sig { return api.Sig{Key: key(n), Sig: api.Wide{8}} }

// signedBy is an entry with signatures, put in order as an entry asks.
func signedBy(e api.Entry, sigs ...api.Sig) api.Entry {
	e.Sigs = slices.Clone(sigs)
	slices.SortFunc(e.Sigs, func(a, b api.Sig) int { return strings.Compare(entry.Signer(a), entry.Signer(b)) })
	return e
}

// unsigned is a binding without signatures. One that revokes has no key.
func unsigned(op int, name string, k int) api.Entry {
	e := api.Entry{Kind: api.Binding, Op: op, Identity: name}
	if op != api.Revoke {
		e.Key = key(k)
	}
	return e
}

// Bindings that are signed by just those who must.

func bindOf(name string, k int) api.Entry { return signedBy(unsigned(api.Bind, name, k), byKey(k)) }

func rotateOf(name string, k int) api.Entry {
	return signedBy(unsigned(api.Rotate, name, k), byName(name), byKey(k))
}

func revokeOf(name string) api.Entry { return signedBy(unsigned(api.Revoke, name, 0), byName(name)) }

// What is asked for: who is or isn't bound, keys, and places, the edges of numbers among them.
var (
	people = []string{"alice", "bob", "zoe", "a", "alic", "alice.", "Alice", "", "key:", "id:alice", strings.Repeat("a", 64), strings.Repeat("é", 99)}
	places = []int{math.MinInt, math.MinInt + 1, -1 << 32, -100, -8, -7, -6, -5, -4, -3, -2, -1, 0, 1, 2, 3, 4, 5, 6, 7, 8, 9, 10, 11, 19, 20, 21, 29, 30, 31, 39, 40, 41, 50, 1 << 20, 1 << 32, 1<<32 + 10, math.MaxInt - 1, math.MaxInt}
)

const manyKeys = 12 // keys 0 to 11 are asked for

// The chapter's words done another way: all is reckoned from the bindings that came.

// came is a binding that came at a place.
type came struct {
	e  api.Entry
	at int
}

type row []came

func (r row) history(name string) []Change {
	var out []Change
	for _, c := range r {
		if c.e.Identity == name {
			out = append(out, Change{c.at, c.e.Op == api.Bind || c.e.Op == api.Rotate, c.e.Key})
		}
	}
	return out
}

// at is the key that the last one of an identity's changes at a place up to this one gave.
func (r row) at(name string, place int) (k api.Key, ok bool) {
	for _, c := range r.history(name) {
		if c.At <= place {
			k, ok = c.Key, c.Has
		}
	}
	return k, ok
}

func (r row) now(name string) (k api.Key, ok bool) {
	for _, c := range r.history(name) {
		k, ok = c.Key, c.Has
	}
	return k, ok
}

// given is the place in the row of the binding that gave a key to an identity; -1, if none did.
func (r row) given(k api.Key) int {
	return slices.IndexFunc(r, func(c came) bool { return c.e.Op != api.Revoke && c.e.Key == k })
}

// spent tells whether the identity to which a key was given rotated or revoked behind that.
func (r row) spent(k api.Key) bool {
	i := r.given(k)
	return i >= 0 && slices.ContainsFunc(r[i+1:], func(c came) bool { return c.e.Identity == r[i].e.Identity })
}

// check is what Check answers.
func (r row) check(e api.Entry) error {
	if entry.Check(e) != nil || e.Kind != api.Binding {
		return api.ErrKind
	}
	_, has := r.now(e.Identity)
	must := map[api.Sig]int{}
	may := has
	switch e.Op {
	case api.Bind:
		may = !has && r.given(e.Key) < 0
		must[api.Sig{Key: e.Key}]++
	case api.Rotate:
		may = has && r.given(e.Key) < 0
		must[api.Sig{Key: e.Key}]++
		must[api.Sig{Identity: e.Identity}]++
	case api.Revoke:
		must[api.Sig{Identity: e.Identity}]++
	}
	for _, s := range e.Sigs {
		s.Sig = api.Wide{}
		must[s]--
	}
	for _, n := range must {
		may = may && n == 0
	}
	if !may {
		return api.ErrKey
	}
	return nil
}

// key is what Key answers.
func (r row) key(s api.Sig) (api.Key, error) {
	if s.Identity == "" && !r.spent(s.Key) {
		return s.Key, nil
	}
	if k, ok := r.now(s.Identity); s.Identity != "" && ok {
		return k, nil
	}
	return api.Key{}, api.ErrKey
}

// same asks all calls of a table that change nothing, against what the chapter says of what came.
func same(t *testing.T, x *Table, r row) {
	t.Helper()
	for _, name := range people {
		sameOf(t, x, r, name)
	}
	for n := range manyKeys {
		if got := x.Spent(key(n)); got != r.spent(key(n)) {
			t.Fatalf("%v: Spent of key %d: %v", r, n, got)
		}
		want, wrong := r.key(byKey(n))
		if got, err := x.Key(byKey(n)); got != want || err != wrong {
			t.Fatalf("%v: Key by key %d: %v, %v", r, n, got, err)
		}
	}
}

// sameOf asks for one identity.
func sameOf(t *testing.T, x *Table, r row, name string) {
	t.Helper()
	want, has := r.now(name)
	if got, ok := x.Bound(name); got != want || ok != has {
		t.Fatalf("%v: Bound of %q: %v, %v", r, name, got, ok)
	}
	if got := x.History(name); !slices.Equal(got, r.history(name)) {
		t.Fatalf("%v: History of %q: %v", r, name, got)
	}
	for _, place := range places {
		want, has := r.at(name, place)
		if got, ok := x.At(name, place); got != want || ok != has {
			t.Fatalf("%v: At of %q, %d: %v, %v", r, name, place, got, ok)
		}
	}
	// What the key beside an identity is, and what the signature's bytes are, doesn't matter.
	for _, k := range []int{0, 1, 2, 9} {
		s := api.Sig{Identity: name, Key: key(k), Sig: api.Wide{byte(k)}}
		want, wrong := r.key(s)
		if got, err := x.Key(s); got != want || err != wrong {
			t.Fatalf("%v: Key by %q and key %d: %v, %v", r, name, k, got, err)
		}
	}
}

// taken asks that a binding may come, that asking so changes nothing, and that it comes.
func taken(t *testing.T, x *Table, r row, e api.Entry, at int) row {
	t.Helper()
	if err := r.check(e); err != nil {
		t.Fatalf("%v, %.300s: it may not come, plainly: %v", r, fmt.Sprint(e), err)
	}
	for range 2 {
		if err := x.Check(e); err != nil {
			t.Fatalf("%v, %.300s: Check %v", r, fmt.Sprint(e), err)
		}
	}
	same(t, x, r)
	if err := x.Take(e, at); err != nil {
		t.Fatalf("%v, %.300s: Take %v", r, fmt.Sprint(e), err)
	}
	r = append(slices.Clone(r), came{e, at})
	same(t, x, r)
	return r
}

// refused asks that entries may not come, and that neither asking nor trying changes anything.
func refused(t *testing.T, x *Table, r row, want error, all ...api.Entry) {
	t.Helper()
	for _, e := range all {
		if err := r.check(e); err != want {
			t.Fatalf("%v, %.300s: plainly %v, not %v", r, fmt.Sprint(e), err, want)
		}
		if err := x.Check(e); err != want {
			t.Errorf("%v, %.300s: Check %v, not %v", r, fmt.Sprint(e), err, want)
		}
		for _, at := range []int{0, -1, 1000, math.MaxInt, math.MinInt} {
			if err := x.Take(e, at); err != want {
				t.Errorf("%v, %.300s: Take at %d %v, not %v", r, fmt.Sprint(e), at, err, want)
			}
		}
		same(t, x, r)
	}
}

// tableOf is a table to which bindings came, at 10, 20 and so on, and what came.
func tableOf(t *testing.T, all ...api.Entry) (*Table, row) {
	t.Helper()
	x, r := New(), row(nil)
	for i, e := range all {
		r = taken(t, x, r, e, 10*(i+1))
	}
	return x, r
}
