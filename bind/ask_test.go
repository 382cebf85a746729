package bind

import (
	"math"
	"slices"
	"testing"

	"cachet/api"
)

// P17.1: what is asked of a table, written out, at the edges that the chapter names.

// life is a table in which alice is bound at 10 to key 1, rotates at 20 to key 2, is revoked at 30, and bound at 40 to key 3; bob is bound at 50 to key 4, rotates at 60 to key 5, and is revoked at 70.
func life(t *testing.T) *Table {
	x, _ := tableOf(t, bindOf("alice", 1), rotateOf("alice", 2), revokeOf("alice"), bindOf("alice", 3), bindOf("bob", 4), rotateOf("bob", 5), revokeOf("bob"))
	return x
}

func TestBound(t *testing.T) {
	x := life(t)
	if k, ok := x.Bound("alice"); k != key(3) || !ok {
		t.Error(k, ok)
	}
	for _, name := range []string{"bob", "zoe", "", "Alice", "alice ", "al\xff", "key:"} {
		if k, ok := x.Bound(name); k != (api.Key{}) || ok {
			t.Errorf("%q: %v, %v", name, k, ok)
		}
	}
}

func TestSpent(t *testing.T) {
	x := life(t)
	for n, want := range []bool{false, true, true, false, true, true, false} {
		if x.Spent(key(n)) != want {
			t.Error(n, !want)
		}
	}
	for _, k := range []api.Key{{1}, {31: 1}, {1, 1, 31: 1}} {
		if x.Spent(k) {
			t.Error(k)
		}
	}
}

func TestHistory(t *testing.T) {
	x := life(t)
	for name, want := range map[string][]Change{
		"alice": {{10, true, key(1)}, {20, true, key(2)}, {30, false, api.Key{}}, {40, true, key(3)}},
		"bob":   {{50, true, key(4)}, {60, true, key(5)}, {70, false, api.Key{}}},
		"zoe":   nil,
		"":      nil,
	} {
		if got := x.History(name); !slices.Equal(got, want) {
			t.Errorf("%q: %v", name, got)
		}
	}
}

// at asks for the keys that identities had at places; key 0 is none.
func at(t *testing.T, x *Table, name string, want map[int]int) {
	t.Helper()
	for place, n := range want {
		if k, ok := x.At(name, place); k != key(n) || ok != (n > 0) {
			t.Errorf("%q at %d: %v, %v, want key %d", name, place, k, ok, n)
		}
	}
}

func TestAt(t *testing.T) {
	x := life(t)
	at(t, x, "alice", map[int]int{math.MinInt: 0, -10: 0, 0: 0, 9: 0, 10: 1, 11: 1, 19: 1, 20: 2, 29: 2, 30: 0, 31: 0, 39: 0, 40: 3, 41: 3, 70: 3, 1 << 32: 3, math.MaxInt: 3})
	at(t, x, "bob", map[int]int{49: 0, 50: 4, 59: 4, 60: 5, 69: 5, 70: 0, 71: 0, math.MaxInt: 0})
	at(t, x, "zoe", map[int]int{math.MinInt: 0, -1: 0, 0: 0, 10: 0, 40: 0, math.MaxInt: 0})
	at(t, x, "", map[int]int{0: 0, 40: 0, math.MaxInt: 0})
}

func TestKey(t *testing.T) {
	x := life(t)
	for _, c := range []struct {
		s    api.Sig
		want api.Key
		err  error
	}{
		{byName("alice"), key(3), nil},
		{byName("bob"), api.Key{}, api.ErrKey},
		{byName("zoe"), api.Key{}, api.ErrKey},
		{byName("Alice"), api.Key{}, api.ErrKey},
		{byName("key:"), api.Key{}, api.ErrKey},
		{byKey(0), key(0), nil},
		{byKey(1), api.Key{}, api.ErrKey},
		{byKey(2), api.Key{}, api.ErrKey},
		{byKey(3), key(3), nil},
		{byKey(4), api.Key{}, api.ErrKey},
		{byKey(5), api.Key{}, api.ErrKey},
		{byKey(6), key(6), nil},
		// It is by the identity, wherever there is one.
		{api.Sig{Identity: "alice", Key: key(1)}, key(3), nil},
		{api.Sig{Identity: "alice", Key: key(6)}, key(3), nil},
		{api.Sig{Identity: "bob", Key: key(6)}, api.Key{}, api.ErrKey},
		{api.Sig{Identity: "bob", Key: key(3)}, api.Key{}, api.ErrKey},
	} {
		for _, w := range []api.Wide{{}, {1}, {63: 255}} {
			c.s.Sig = w
			if k, err := x.Key(c.s); k != c.want || err != c.err {
				t.Errorf("%v: %v, %v", c.s, k, err)
			}
		}
	}
}

// TestPlaces: no order of places is asked; the last change that came counts.
func TestPlaces(t *testing.T) {
	all := []api.Entry{bindOf("alice", 1), rotateOf("alice", 2), revokeOf("alice"), bindOf("alice", 3)}
	for _, c := range []struct {
		places []int
		want   map[int]int
	}{
		{[]int{0, 1, 2, 3}, map[int]int{-1: 0, 0: 1, 1: 2, 2: 0, 3: 3, 4: 3}},
		{[]int{-5, 7, 900, 1 << 40}, map[int]int{-6: 0, -5: 1, 0: 1, 6: 1, 7: 2, 899: 2, 900: 0, 1<<40 - 1: 0, 1 << 40: 3}},
		{[]int{5, 5, 5, 5}, map[int]int{4: 0, 5: 3, 6: 3}},
		{[]int{5, 5, 7, 7}, map[int]int{4: 0, 5: 2, 6: 2, 7: 3}},
		{[]int{0, 5, 5, 6}, map[int]int{4: 1, 5: 0, 6: 3}},
		{[]int{9, 7, 5, 3}, map[int]int{2: 0, 3: 3, 4: 3, 5: 3, 7: 3, 9: 3, 10: 3}},
		{[]int{9, 7, 5, 8}, map[int]int{4: 0, 5: 0, 6: 0, 7: 0, 8: 3, 9: 3}},
		{[]int{9, 7, 10, 20}, map[int]int{6: 0, 7: 2, 8: 2, 9: 2, 10: 0, 19: 0, 20: 3}},
		{[]int{-1, -2, -3, -4}, map[int]int{-5: 0, -4: 3, -3: 3, 0: 3}},
		{[]int{math.MinInt, math.MaxInt, math.MinInt, math.MaxInt}, map[int]int{math.MinInt: 0, 0: 0, math.MaxInt - 1: 0, math.MaxInt: 3}},
		{[]int{math.MaxInt, math.MinInt, 0, math.MaxInt}, map[int]int{math.MinInt: 2, -1: 2, 0: 0, math.MaxInt - 1: 0, math.MaxInt: 3}},
	} {
		x, r := New(), row(nil)
		for i, e := range all {
			r = taken(t, x, r, e, c.places[i])
		}
		at(t, x, "alice", c.want)
		if k, ok := x.Bound("alice"); k != key(3) || !ok {
			t.Error(c.places, k, ok)
		}
	}
}

// TestRevokedAtALowPlace: what an identity has now doesn't hang on places.
func TestRevokedAtALowPlace(t *testing.T) {
	x, r := New(), row(nil)
	r = taken(t, x, r, bindOf("alice", 1), 50)
	r = taken(t, x, r, revokeOf("alice"), -50)
	at(t, x, "alice", map[int]int{-51: 0, -50: 0, 49: 0, 50: 0, 51: 0})
	refused(t, x, r, api.ErrKey, revokeOf("alice"), rotateOf("alice", 2))
	taken(t, x, r, bindOf("alice", 2), 0)
}

// TestManyChanges: histories may grow.
func TestManyChanges(t *testing.T) {
	x := New()
	k := func(n int) api.Key { return api.Key{byte(n), byte(n >> 8), 1} }
	for n := range 2000 {
		e := api.Entry{Kind: api.Binding, Op: api.Rotate, Identity: "alice", Key: k(n)}
		sigs := []api.Sig{byName("alice"), {Key: k(n)}}
		if n == 0 {
			e.Op, sigs = api.Bind, sigs[1:]
		}
		if err := x.Take(signedBy(e, sigs...), 3*n); err != nil {
			t.Fatal(n, err)
		}
	}
	for n, c := range x.History("alice") {
		was, ok := x.At("alice", 3*n+2)
		if c != (Change{3 * n, true, k(n)}) || was != k(n) || !ok || x.Spent(k(n)) != (n < 1999) {
			t.Fatal(n, c, was, ok)
		}
	}
}

// TestNil: a nil Table is as one in which nobody was bound, into which nothing comes.
func TestNil(t *testing.T) {
	var x *Table
	refused(t, x, nil, api.ErrKey, rotateOf("alice", 1), revokeOf("alice"), signedBy(unsigned(api.Bind, "alice", 1), byName("alice")), signedBy(unsigned(api.Bind, "alice", 1), byKey(2)))
	refused(t, x, nil, api.ErrKind, append(spoilt(bindOf("alice", 1)), api.Entry{}, api.Entry{Kind: api.Artifact, Sigs: []api.Sig{byName("alice")}})...)
	for _, e := range []api.Entry{bindOf("alice", 1), bindOf("bob", 0)} {
		if err := x.Check(e); err != nil {
			t.Error(err)
		}
		for _, at := range []int{0, 1, -1} {
			if err := x.Take(e, at); err != api.ErrKey {
				t.Error(at, err)
			}
		}
	}
	if x.Copy() != nil {
		t.Error("a copy")
	}
	same(t, x, nil)
}

// TestZero: a zero value is as a new one, so that no call panics.
func TestZero(t *testing.T) {
	same(t, &Table{}, nil)
	refused(t, &Table{}, nil, api.ErrKey, rotateOf("alice", 1), revokeOf("alice"))
	for _, x := range []*Table{{}, (&Table{}).Copy()} {
		r := taken(t, x, nil, bindOf("alice", 1), 3)
		taken(t, x, r, rotateOf("alice", 2), 4)
	}
}
