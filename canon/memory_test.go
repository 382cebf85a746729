package canon

import (
	"bytes"
	"math/rand"
	"strings"
	"testing"

	"cachet/api"
)

// P13.3: what is handed in is neither changed nor kept; answers are new memory.

// scribble writes over all lists within a value, and over the room behind them.
func scribble(v api.Value) {
	for _, x := range v.List[:cap(v.List)] {
		scribble(x)
	}
	for _, p := range v.Pairs[:cap(v.Pairs)] {
		scribble(p.Value)
	}
	for i := range v.List[:cap(v.List)] {
		v.List[:cap(v.List)][i] = txt("scribbled")
	}
	for i := range v.Pairs[:cap(v.Pairs)] {
		v.Pairs[:cap(v.Pairs)][i] = with("scribbled", num(i))
	}
}

// roomy is a copy of a value with room behind each list, in which something stands.
func roomy(v api.Value) api.Value {
	var all []api.Value
	for _, x := range v.List {
		all = append(all, roomy(x))
	}
	var pairs []api.Pair
	for _, p := range v.Pairs {
		pairs = append(pairs, with(p.Name, roomy(p.Value)))
	}
	v.List = append(all, txt("behind"), num(1))[:len(v.List)]
	v.Pairs = append(pairs, with("behind", txt("b")), with("a", num(1)))[:len(v.Pairs)]
	return v
}

// behindStays tells whether all that stands in the room behind lists is there.
func behindStays(v api.Value) bool {
	for _, x := range parts(&v) {
		n, m := len(x.List), len(x.Pairs)
		all, pairs := x.List[:n+2], x.Pairs[:m+2]
		if !alike(all[n], txt("behind")) || !alike(all[n+1], num(1)) {
			return false
		}
		if pairs[m].Name != "behind" || !alike(pairs[m].Value, txt("b")) || pairs[m+1].Name != "a" || !alike(pairs[m+1].Value, num(1)) {
			return false
		}
	}
	return true
}

// samples are values that have lists within one another, at most 8 deep.
func samples() []api.Value {
	out := []api.Value{
		object(with("b", list(num(1), list(num(2), txt("c")))), with("a", object(with("z", list(num(3))), with("y", object(with("x", num(4))))))),
		object(with("b", nested(7, 0x5a, num(1))), with("a", nested(7, 0xa5, txt("x")))),
		object(with("b", list(num(1))), with("a", list(num(2))), with("a", list(num(3)))),
		object(with("b", num(1)), with("a", num(2))),
		object(with("a", num(1)), with("b", num(2))),
		list(object(with("b", num(1)), with("a", num(2))), list(num(2), num(1))),
		{Kind: 9, List: []api.Value{list(num(1))}, Pairs: []api.Pair{with("q", list(num(2))), with("p", object(with("b", num(1)), with("a", num(2))))}},
	}
	for seed := range 300 {
		chance := rand.New(rand.NewSource(int64(seed)))
		out = append(out, some(chance, 5), object(with("b", some(chance, 4)), with("a", some(chance, 4))), turned(chance, some(chance, 5)), mixed(chance, some(chance, 5)))
	}
	return out
}

func TestCallsChangeNothing(t *testing.T) {
	for _, v := range samples() {
		want := clone(v)
		a := roomy(v)
		Put(a)
		Sorted(a)
		if !alike(a, want) || !behindStays(a) {
			t.Errorf("%v: changed", v)
		}
	}
}

// TestSortedIsNewMemory writes over the answer and asks what was handed in, and the other way round.
func TestSortedIsNewMemory(t *testing.T) {
	for _, v := range samples() {
		want := clone(v)
		a := roomy(v)
		x, y := Sorted(a), Sorted(a)
		sorted := clone(x)
		scribble(x)
		if !alike(a, want) || !behindStays(a) {
			t.Errorf("%v: shares memory with what was handed in", v)
		}
		if !alike(y, sorted) {
			t.Errorf("%v: shares memory with another answer", v)
		}
		scribble(a)
		if !alike(y, sorted) {
			t.Errorf("%v: kept", v)
		}
	}
}

// TestSortedListsAreApart grows each list of an answer, and asks the others.
func TestSortedListsAreApart(t *testing.T) {
	inner := []api.Value{num(2), num(1)}
	pairs := []api.Pair{with("b", list(inner...)), with("a", list(inner...))}
	// One list stands at several places of what is handed in, as a part of it at another one.
	v := list(list(inner...), list(inner[:1]...), object(pairs...), object(pairs[:1]...), object(pairs...), list(), object())
	whole := Sorted(v)
	for i := range parts(&whole) {
		x := Sorted(v)
		want := clone(x)
		all, wants := parts(&x), parts(&want)
		for j := range all[i].List {
			all[i].List[j], wants[i].List[j] = txt("over"), txt("over")
		}
		for j := range all[i].Pairs {
			all[i].Pairs[j], wants[i].Pairs[j] = with("over", num(0)), with("over", num(0))
		}
		all[i].List = append(all[i].List, txt("more"))
		all[i].Pairs = append(all[i].Pairs, with("more", num(0)))
		wants[i].List = append(wants[i].List, txt("more"))
		wants[i].Pairs = append(wants[i].Pairs, with("more", num(0)))
		if !alike(x, want) {
			t.Errorf("list %d shares memory with another one", i)
		}
	}
}

func TestPutIsNewMemory(t *testing.T) {
	for _, v := range samples() {
		a := roomy(v)
		x, err := Put(a)
		y, other := Put(a)
		if err != other || !bytes.Equal(x, y) {
			t.Fatalf("%v: %s, %v, and %s, %v", v, x, err, y, other)
		}
		want := bytes.Clone(x)
		all := x[:cap(x)]
		for i := range all {
			all[i] = 'z'
		}
		if !bytes.Equal(y, want) || !alike(a, v) {
			t.Errorf("%v: shares memory", v)
		}
		scribble(a)
		if !bytes.Equal(y, want) {
			t.Errorf("%v: kept", v)
		}
	}
}

func TestIsLeavesBytes(t *testing.T) {
	for _, text := range []string{`{"a":[1,"é",{"c":"d"}],"b":null}`, `{"b":1,"a":2}`, ` {"b" : 1} `, "nul", "", `"` + strings.Repeat("a", 4094) + `"`, `"` + strings.Repeat("a", 4095) + `"`} {
		whole := append([]byte("ahead"+text), "behind"...)
		kept := bytes.Clone(whole)
		first := Is(whole[5 : 5+len(text)])
		if !bytes.Equal(whole, kept) {
			t.Errorf("%.50q: changed", text)
		}
		for i := range whole {
			whole[i] = 'z'
		}
		if Is([]byte("z")) || Is(kept[5:5+len(text)]) != first {
			t.Errorf("%.50q: another answer", text)
		}
	}
}

// TestSameAgain asks all twice, with other asks between: nothing is kept from call to call.
func TestSameAgain(t *testing.T) {
	all := samples()
	firsts := make([]string, len(all))
	errs := make([]error, len(all))
	for i, v := range all {
		text, err := Put(v)
		firsts[i], errs[i] = string(text), err
	}
	for i, v := range all {
		if text, err := Put(v); string(text) != firsts[i] || err != errs[i] {
			t.Errorf("%v: %s, %v", v, text, err)
		}
	}
}
