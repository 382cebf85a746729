package json

import (
	"math/rand"
	"reflect"
	"testing"

	"cachet/api"
)

// P12.1: Get and Names.

// got asks for the value of a name that is there.
func got(t *testing.T, v api.Value, name string, want api.Value) {
	t.Helper()
	if x, ok := Get(v, name); !ok || !alike(x, want) {
		t.Errorf("%v, %q: %v, %v", v, name, x, ok)
	}
}

// gotNone asks for names that aren't there.
func gotNone(t *testing.T, v api.Value, names ...string) {
	t.Helper()
	for _, name := range names {
		if x, ok := Get(v, name); ok || !reflect.DeepEqual(x, api.Value{}) {
			t.Errorf("%v, %q: %v, %v", v, name, x, ok)
		}
	}
}

// through is all that Names goes through.
func through(v api.Value) []api.Pair {
	var out []api.Pair
	for name, x := range Names(v) {
		out = append(out, with(name, x))
	}
	return out
}

// others are values of other kinds that have pairs nevertheless, or none.
func others() []api.Value {
	var out []api.Value
	for _, kind := range []int{api.Null, api.Bool, api.Int, api.Text, api.List, -1, 6, 1<<32 + 5} {
		out = append(out, api.Value{Kind: kind}, api.Value{Kind: kind, Text: "a", List: []api.Value{txt("a"), object(with("a", num(1)))}, Pairs: []api.Pair{with("a", num(1)), with("", num(2))}})
	}
	return out
}

func TestGet(t *testing.T) {
	v, err := Parse([]byte(`{"x":1,"y":[2,{"x":3}],"":null,"\u00e9":{"x":4},"X":"5","x ":false}`))
	if err != nil {
		t.Fatal(err)
	}
	got(t, v, "x", num(1))
	got(t, v, "y", list(num(2), object(with("x", num(3)))))
	got(t, v, "", api.Value{})
	got(t, v, "é", object(with("x", num(4))))
	got(t, v, "X", txt("5"))
	got(t, v, "x ", flag(0))
	gotNone(t, v, "z", "Y", " x", "xx", "x\x00", "e\u0301", "É", "\xff", "null")
	gotNone(t, object(), "", "a")
	gotNone(t, api.Value{}, "", "a")
}

// TestGetTwice has a name that stands more than once: the first one counts.
func TestGetTwice(t *testing.T) {
	v := object(with("b", num(0)), with("a", num(1)), with("a", num(2)), with("b", num(3)), with("a", num(4)))
	got(t, v, "a", num(1))
	got(t, v, "b", num(0))
	got(t, object(with("", api.Value{}), with("", num(1))), "", api.Value{})
}

func TestGetOfOtherKinds(t *testing.T) {
	for _, v := range others() {
		gotNone(t, v, "a", "", "0")
	}
}

// TestGetOfNoText has values that no text is: they are asked like others.
func TestGetOfNoText(t *testing.T) {
	odd := api.Value{Kind: 77, Int: 1 << 60, Text: "\xff", List: []api.Value{num(1)}, Pairs: []api.Pair{with("z", num(2))}}
	v := api.Value{Kind: api.Object, Int: 5, Text: "\xff", List: []api.Value{num(9)}, Pairs: []api.Pair{with("\xff", odd), with("\xfe", num(1)), with("\ufffd", num(3)), with("deep", nested(20, 5, odd))}}
	got(t, v, "\xff", odd)
	got(t, v, "\xfe", num(1))
	got(t, v, "\ufffd", num(3))
	got(t, v, "deep", nested(20, 5, odd))
	gotNone(t, v, "\xfd", "", "z")
	if all := through(v); !alike(object(all...), object(v.Pairs...)) {
		t.Error(all)
	}
}

func TestNames(t *testing.T) {
	v, err := Parse([]byte(`{"x":1,"y":[2],"":null,"a":{"b":"c"},"é":true}`))
	if err != nil {
		t.Fatal(err)
	}
	want := object(with("x", num(1)), with("y", list(num(2))), with("", api.Value{}), with("a", object(with("b", txt("c")))), with("é", flag(1)))
	for range 2 {
		if all := through(v); !alike(object(all...), want) {
			t.Error(all)
		}
	}
	if all := through(object()); len(all) != 0 {
		t.Error(all)
	}
	twice := object(with("b", num(0)), with("a", num(1)), with("a", num(2)), with("b", num(3)))
	if all := through(twice); !alike(object(all...), twice) {
		t.Error(all)
	}
}

func TestNamesOfOtherKinds(t *testing.T) {
	for _, v := range others() {
		if all := through(v); len(all) != 0 {
			t.Errorf("%v: %v", v, all)
		}
	}
}

// TestNamesStopped leaves an iterator behind each pair, and goes through it again.
func TestNamesStopped(t *testing.T) {
	v := object(with("c", num(0)), with("b", num(1)), with("a", num(2)), with("d", num(3)))
	all := Names(v)
	for stop := range 6 {
		n := 0
		for name, x := range all {
			if n >= 4 || name != v.Pairs[n].Name || !alike(x, v.Pairs[n].Value) {
				t.Fatal(stop, n, name, x)
			}
			if n++; n == stop {
				break
			}
		}
		if want := min(stop, 4); stop > 0 && n != want {
			t.Error(stop, n)
		}
	}
	calls := 0
	all(func(string, api.Value) bool {
		calls++
		return false
	})
	if calls != 1 {
		t.Error("goes on when it is left", calls)
	}
}

// TestNamesWithin goes through an iterator within itself.
func TestNamesWithin(t *testing.T) {
	all := Names(object(with("a", num(0)), with("b", num(1)), with("c", num(2))))
	told := ""
	for a := range all {
		for b := range all {
			told += a + b + " "
		}
	}
	if told != "aa ab ac ba bb bc ca cb cc " {
		t.Error(told)
	}
}

// TestGetAndNames asks both of values in disorder.
func TestGetAndNames(t *testing.T) {
	for seed := range 5000 {
		chance := rand.New(rand.NewSource(int64(seed)))
		v := turned(chance, some(chance, 3))
		var want []api.Pair
		if v.Kind == api.Object {
			want = v.Pairs
		}
		if all := through(v); !alike(object(all...), object(want...)) {
			t.Errorf("%v: %v", v, all)
		}
		for _, name := range []string{"", "a", "b", "é", word(chance), "\xff"} {
			at := -1
			for i, p := range want {
				if p.Name == name && at < 0 {
					at = i
				}
			}
			if at < 0 {
				gotNone(t, v, name)
			} else {
				got(t, v, name, want[at].Value)
			}
		}
	}
}
