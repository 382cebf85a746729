package bind

import (
	"reflect"
	"slices"
	"testing"

	"cachet/api"
)

// P17.3: answers are new memory, and what is handed in is neither changed nor kept.

// scribble writes over changes, and over the room behind them.
func scribble(all []Change) {
	all = all[:cap(all)]
	for i := range all {
		all[i] = Change{-99, true, key(11)}
	}
}

func TestHistoriesAreNewMemory(t *testing.T) {
	x, r := New(), row(nil)
	for i, e := range []api.Entry{bindOf("alice", 1), rotateOf("alice", 2), rotateOf("alice", 3), revokeOf("alice"), bindOf("alice", 4), bindOf("bob", 5)} {
		first, second := x.History("alice"), x.History("alice")
		want := slices.Clone(second)
		scribble(append(first, Change{}))
		scribble(first)
		if !slices.Equal(second, want) {
			t.Fatal(i, "two answers share memory")
		}
		// What the table lets come stands in no answer's room.
		grown := append(second, Change{At: -7})
		r = taken(t, x, r, e, i)
		if grown[len(grown)-1] != (Change{At: -7}) || !slices.Equal(second, want) {
			t.Fatal(i, "an answer has changed")
		}
		scribble(grown)
		scribble(second)
		same(t, x, r)
	}
}

// TestTakesNothing hands in entries with room behind their lists, and writes over all.
func TestTakesNothing(t *testing.T) {
	x, r := New(), row(nil)
	for i, e := range []api.Entry{bindOf("alice", 1), rotateOf("alice", 2), bindOf("bob", 1), revokeOf("alice"), {}, bindOf("alice", 3)} {
		full := append(slices.Clone(e.Sigs), byName("behind"), byKey(77))
		kept := slices.Clone(full)
		handed := e
		handed.Sigs = full[:len(e.Sigs)]
		handed.Payload = make([]byte, 0, 8)
		was := handed
		want := x.Check(handed)
		if err := x.Take(handed, i); err != want {
			t.Fatal(i, err, want)
		}
		if !slices.Equal(full, kept) || !reflect.DeepEqual(handed, was) {
			t.Error(i, "changed")
		}
		for n := range full {
			full[n] = byName("over")
		}
		if want == nil {
			r = append(r, came{e, i})
		}
		same(t, x, r)
	}
	if len(r) != 4 {
		t.Error(len(r))
	}
}

// TestCopiesGoOnAlone lets bindings come to a table and to its copy, in turns, so that their histories might grow into one room.
func TestCopiesGoOnAlone(t *testing.T) {
	ahead := []api.Entry{bindOf("alice", 1), rotateOf("alice", 2), rotateOf("alice", 3), bindOf("bob", 4), revokeOf("bob"), rotateOf("alice", 5)}
	for n := range len(ahead) + 1 {
		x, r := tableOf(t, ahead[:n]...)
		y, s := x.Copy(), slices.Clone(r)
		same(t, y, s)
		more := func(x *Table, r row, e api.Entry, at int) row {
			if r.check(e) != nil {
				return r
			}
			return taken(t, x, r, e, at)
		}
		for i := range 6 {
			name := []string{"alice", "bob"}[i%2]
			r = more(x, r, rotateOf(name, 6+i%6), 100+i)
			same(t, y, s)
			s = more(y, s, revokeOf(name), 200+i)
			same(t, x, r)
			s = more(y, s, bindOf(name, 6+i%6), 300+i)
			same(t, x, r)
			r = more(x, r, revokeOf(name), 400+i)
			r = more(x, r, bindOf(name, 8+i/2), 500+i)
			same(t, y, s)
		}
		if len(r) <= n || len(s) <= n {
			t.Error(n, len(r), len(s))
		}
	}
}

func TestCopyOfNobody(t *testing.T) {
	x := New()
	y := x.Copy()
	if y == nil || y == x {
		t.Fatal(y)
	}
	s := taken(t, y, nil, bindOf("alice", 1), 0)
	same(t, x, nil)
	taken(t, x, nil, bindOf("alice", 2), 0)
	same(t, y, s)
}

// TestTablesAreApart: nothing is kept beside the tables.
func TestTablesAreApart(t *testing.T) {
	x, r := tableOf(t, bindOf("alice", 1), revokeOf("alice"))
	same(t, New(), nil)
	y, s := tableOf(t, bindOf("alice", 1))
	same(t, x, r)
	same(t, y, s)
}
