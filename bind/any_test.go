package bind

import (
	"math/rand"
	"slices"
	"testing"

	"cachet/api"
)

// Bindings in disorder, against the chapter's words done another way (P17.1, P17.2).

// TestAllRows has all rows of five bindings at most, out of two identities and four keys, that are signed as they must be.
func TestAllRows(t *testing.T) {
	var all []api.Entry
	for _, name := range []string{"alice", "bob"} {
		for k := range 4 {
			all = append(all, bindOf(name, k), rotateOf(name, k))
		}
		all = append(all, revokeOf(name))
	}
	n := 0
	var goOn func(x *Table, r row)
	goOn = func(x *Table, r row) {
		n++
		same(t, x, r)
		once(t, r)
		for _, e := range all {
			y := x.Copy()
			want := r.check(e)
			if err := y.Check(e); err != want {
				t.Fatalf("%v, %v: Check %v", r, e, err)
			}
			if err := y.Take(e, len(r)); err != want {
				t.Fatalf("%v, %v: Take %v", r, e, err)
			}
			if want == nil && len(r) < 5 {
				goOn(y, append(slices.Clone(r), came{e, len(r)}))
			}
		}
	}
	goOn(New(), nil)
	if n < 3000 {
		t.Error("too few:", n)
	}
}

// once asks that no key was bound twice (P17.2).
func once(t *testing.T, r row) {
	t.Helper()
	seen := map[api.Key]bool{}
	for _, c := range r {
		if c.e.Op != api.Revoke && seen[c.e.Key] {
			t.Fatalf("%v: bound twice: %v", r, c.e.Key)
		}
		seen[c.e.Key] = seen[c.e.Key] || c.e.Op != api.Revoke
	}
}

// someBinding is a binding, mostly signed as it must be, out of few identities and keys.
func someBinding(chance *rand.Rand) api.Entry {
	name := people[chance.Intn(4)]
	k := chance.Intn(manyKeys)
	all := []api.Entry{bindOf(name, k), rotateOf(name, k), rotateOf(name, k), revokeOf(name)}
	e := all[chance.Intn(len(all))]
	switch chance.Intn(12) {
	case 0:
		e = signedBy(e, append(e.Sigs, byKey(chance.Intn(manyKeys)))...)
	case 1:
		e = signedBy(e, append(e.Sigs, byName(people[chance.Intn(4)]))...)
	case 2:
		e.Sigs = e.Sigs[1:]
	case 3:
		e = signedBy(e, byKey(chance.Intn(manyKeys)))
	case 4:
		e = signedBy(e, byName(people[chance.Intn(4)]))
	case 5:
		e.Op = chance.Intn(6) - 1
	case 6:
		e.Kind = chance.Intn(6)
	}
	return e
}

// TestInNoOrder lets bindings come to tables that are copied from one another, and asks what each of them holds.
func TestInNoOrder(t *testing.T) {
	answers := map[error]int{}
	for seed := range 120 {
		chance := rand.New(rand.NewSource(int64(seed)))
		tables, rows := []*Table{New()}, []row{nil}
		spent := []map[api.Key]bool{{}}
		for range 60 {
			i := chance.Intn(len(tables))
			if chance.Intn(20) == 0 {
				tables, rows = append(tables, tables[i].Copy()), append(rows, slices.Clone(rows[i]))
				spent = append(spent, map[api.Key]bool{})
			}
			e, place := someBinding(chance), chance.Intn(20)-8
			want := rows[i].check(e)
			answers[want]++
			if chance.Intn(2) == 0 {
				if err := tables[i].Check(e); err != want {
					t.Fatalf("%v, %v: Check %v", rows[i], e, err)
				}
			}
			if err := tables[i].Take(e, place); err != want {
				t.Fatalf("%v, %v: Take %v", rows[i], e, err)
			}
			if want == nil {
				rows[i] = append(rows[i], came{e, place})
			}
			same(t, tables[i], rows[i])
			once(t, rows[i])
			staysSpent(t, tables[i], spent[i])
		}
		for i, x := range tables {
			same(t, x, rows[i])
		}
	}
	if answers[nil] < 500 || answers[api.ErrKey] < 500 || answers[api.ErrKind] < 300 {
		t.Error("too few of one sort:", answers)
	}
}

// staysSpent asks that what was spent is so still, and that nobody has it (P17.2).
func staysSpent(t *testing.T, x *Table, was map[api.Key]bool) {
	t.Helper()
	for n := range manyKeys {
		if x.Spent(key(n)) {
			was[key(n)] = true
		} else if was[key(n)] {
			t.Fatalf("key %d isn't spent any more", n)
		}
	}
	for _, name := range people {
		if k, ok := x.Bound(name); ok && was[k] {
			t.Fatalf("%q has %v, which is spent", name, k)
		}
	}
}
