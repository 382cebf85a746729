package canon

import (
	"math/rand"
	"sort"
	"strings"
	"testing"

	"cachet/api"
	"cachet/json"
)

// P13.1: Sorted.

// plainSorted has the pairs in their order by being put one by one behind the last that isn't greater.
func plainSorted(v api.Value, around int) api.Value {
	if around == 8 {
		return v
	}
	out := v
	out.List, out.Pairs = nil, nil
	for _, x := range v.List {
		out.List = append(out.List, plainSorted(x, around+1))
	}
	for _, p := range v.Pairs {
		at := sort.Search(len(out.Pairs), func(i int) bool { return out.Pairs[i].Name > p.Name })
		out.Pairs = append(out.Pairs, api.Pair{})
		copy(out.Pairs[at+1:], out.Pairs[at:])
		out.Pairs[at] = with(p.Name, plainSorted(p.Value, around+1))
	}
	return out
}

// sorts asks for what a value is sorted to; sorted again, that is the same.
func sorts(t *testing.T, v, want api.Value) {
	t.Helper()
	got := Sorted(v)
	if !alike(got, want) || !alike(Sorted(got), want) || !alike(plainSorted(v, 0), want) {
		t.Errorf("%.300v: %.300v", v, got)
	}
}

func named(names ...string) api.Value {
	var all []api.Pair
	for i, name := range names {
		all = append(all, with(name, num(i)))
	}
	return object(all...)
}

// nameRow is names that rise by their bytes.
func nameRow() []string {
	return []string{"", "\x00", "\x00\x00", "\n", " ", "\"", "0", "1", "10", "2", "A", "B", "Z", "\\", "a", "a\x00", "aa", "ab", "abc", "abd", "b", "z", "zz", "\x7f", "\u0080", "é", "\u07ff", "\u0800", "\ud7ff", "\ue000", "\ufeff", "\uffff", "\U00010000", "😀", "\U0010ffff"}
}

// TestSortedNames has names that differ in their last byte, one that begins another one, and signs whose halves would come ahead of others.
func TestSortedNames(t *testing.T) {
	row := nameRow()
	if !sort.StringsAreSorted(row) {
		t.Fatal("the row doesn't rise")
	}
	for i, a := range row {
		for j, b := range row {
			if i < j {
				two := object(with(a, num(1)), with(b, num(2)))
				sorts(t, two, two)
				sorts(t, object(two.Pairs[1], two.Pairs[0]), two)
				want := "{" + plainQuote(a) + ":1," + plainQuote(b) + ":2}"
				puts(t, two, want)
				puts(t, object(two.Pairs[1], two.Pairs[0]), want)
				if turned := "{" + plainQuote(b) + ":2," + plainQuote(a) + ":1}"; Is([]byte(turned)) {
					t.Error(turned)
				}
			}
		}
	}
	want := named(row...)
	chance := rand.New(rand.NewSource(1))
	for range 200 {
		sorts(t, mixed(chance, want), want)
	}
	// Bytes that are no sign rise, too.
	wrong := object(with("\x7f", num(1)), with("\x80", num(2)), with("\xc3", num(3)), with("é", num(4)), with("\xed\xa0\x80", num(5)), with("\xff", num(6)), with("\xff\x00", num(7)))
	for range 200 {
		sorts(t, mixed(chance, wrong), wrong)
	}
}

// TestSortedOnceMore has one name several times: they are in the order in which they stood.
func TestSortedOnceMore(t *testing.T) {
	sorts(t, named("b", "a", "b", "a", "", "b"), object(with("", num(4)), with("a", num(1)), with("a", num(3)), with("b", num(0)), with("b", num(2)), with("b", num(5))))
	sorts(t, named("a", "a", "a"), named("a", "a", "a"))
	var pairs, want []api.Pair
	names := []string{"c", "b", "a"}
	for i := range 1000 {
		pairs = append(pairs, with(names[i%3], num(i)))
	}
	for _, name := range []string{"a", "b", "c"} {
		for i := range 1000 {
			if names[i%3] == name {
				want = append(want, with(name, num(i)))
			}
		}
	}
	sorts(t, object(pairs...), object(want...))
	sorts(t, list(object(pairs...)), list(object(want...)))
}

func TestSortedWithin(t *testing.T) {
	ab, ba := object(with("a", num(1)), with("b", num(2))), object(with("b", num(2)), with("a", num(1)))
	sorts(t, list(ba, num(3), ba, list(ba)), list(ab, num(3), ab, list(ab)))
	sorts(t, object(with("d", ba), with("c", list(ba, txt("x")))), object(with("c", list(ab, txt("x"))), with("d", ab)))
	sorts(t, list(num(3), num(1), num(2)), list(num(3), num(1), num(2)))
	sorts(t, list(txt("b"), txt("a")), list(txt("b"), txt("a")))
	for _, v := range []api.Value{{}, flag(1), flag(0), num(-5), txt("ba"), list(), object()} {
		sorts(t, v, v)
	}
	for n := range 8 {
		for _, objects := range []int{0, -1, 0x55, 0xaa} {
			sorts(t, nested(n, objects, ba), nested(n, objects, ab))
		}
	}
}

// TestSortedOfAny has values that are what no text is.
func TestSortedOfAny(t *testing.T) {
	ab, ba := object(with("a", num(1)), with("b", num(2))), object(with("b", num(2)), with("a", num(1)))
	for _, v := range wrong() {
		sorts(t, list(v, ba), list(plainSorted(v, 1), ab))
		sorts(t, object(with("b", ba), with("a", v)), object(with("a", plainSorted(v, 1)), with("b", ab)))
	}
	for _, kind := range []int{-1, api.Null, api.Bool, api.Int, api.Text, api.List, api.Object, 6, 1 << 40} {
		sorts(t,
			api.Value{Kind: kind, Int: 9, Text: "\xff", List: []api.Value{ba, list(ba)}, Pairs: []api.Pair{with("\xff", ba), with("é", list(ba))}},
			api.Value{Kind: kind, Int: 9, Text: "\xff", List: []api.Value{ab, list(ab)}, Pairs: []api.Pair{with("é", list(ab)), with("\xff", ab)}})
	}
	for seed := range 3000 {
		chance := rand.New(rand.NewSource(int64(seed)))
		v := some(chance, 6)
		for range 4 {
			v = mixed(chance, turned(chance, v))
		}
		sorts(t, v, plainSorted(v, 0))
	}
}

// down is the value so many lists or objects below another one.
func down(v *api.Value, n int) *api.Value {
	for range n {
		if len(v.List) > 0 {
			v = &v.List[0]
		} else {
			v = &v.Pairs[0].Value
		}
	}
	return v
}

// TestSortedDeep has what is more than 8 deep: it is as it was, and shared.
func TestSortedDeep(t *testing.T) {
	ab, ba := object(with("a", num(1)), with("b", num(2))), object(with("b", num(2)), with("a", num(1)))
	for _, objects := range []int{0, -1, 0x55, 0xaa} {
		for n := range 20 {
			v := nested(n, objects, clone(ba))
			got := Sorted(v)
			want := ab
			if n >= 8 {
				want = ba
			}
			if !alike(got, nested(n, objects, want)) || !alike(v, nested(n, objects, ba)) {
				t.Errorf("%d deep: %v", n+1, got)
			}
			down(&v, n).Pairs[0].Name = "changed"
			if shared := down(&got, n).Pairs[0].Name == "changed"; shared != (n >= 8) {
				t.Errorf("%d deep: shared: %v", n+1, shared)
			}
		}
	}
	v := nested(1<<16, 0x5a5a, clone(ba))
	if got := Sorted(v); !alike(*down(&got, 1<<16), ba) {
		t.Error("2^16 deep")
	}
	// Around what is deep, all is sorted.
	v = object(with("z", nested(30, 0, ba)), with("y", ba), with("x", nested(30, -1, ba)))
	got := Sorted(v)
	if got.Pairs[0].Name != "x" || !alike(got.Pairs[0].Value, nested(30, -1, ba)) || !alike(got.Pairs[1].Value, ab) || !alike(got.Pairs[2].Value, nested(30, 0, ba)) {
		t.Errorf("%v", got)
	}
}

// TestHoldsItself has a value within itself: calls end.
func TestHoldsItself(t *testing.T) {
	pairs := make([]api.Pair, 3)
	pairs[0] = with("b", object(pairs...))
	pairs[1] = with("a", list(object(pairs...)))
	pairs[2] = with("", num(1))
	v := object(pairs...)
	if got := Sorted(v); len(got.Pairs) != 3 || got.Pairs[0].Name != "" || got.Pairs[2].Name != "b" || v.Pairs[0].Name != "b" {
		t.Error("not sorted")
	}
	if _, err := Put(v); err != api.ErrForm {
		t.Error(err)
	}
}

// TestSortedLarge has more pairs than a text that is put.
func TestSortedLarge(t *testing.T) {
	chance := rand.New(rand.NewSource(1))
	var all []api.Pair
	for i := range 50000 {
		all = append(all, with(strings.Repeat(string(rune('a'+chance.Intn(26))), chance.Intn(4)), num(i)))
	}
	got := Sorted(object(all...))
	for i := 1; i < len(got.Pairs); i++ {
		a, b := got.Pairs[i-1], got.Pairs[i]
		if a.Name > b.Name || a.Name == b.Name && a.Value.Int >= b.Value.Int {
			t.Fatal(a, b)
		}
	}
	if len(got.Pairs) != len(all) || json.Check(got) != api.ErrForm {
		t.Error(len(got.Pairs))
	}
}
