package json

import (
	"bytes"
	"math/rand"
	"testing"

	"cachet/api"
)

// P12.2: what is parsed is checked without an error. (So ask parsed and held in all their tests, too.)

func TestParsedIsChecked(t *testing.T) {
	for seed := range 20000 {
		chance := rand.New(rand.NewSource(int64(seed)))
		v := some(chance, 8)
		text, _ := written(v)
		got, err := Parse([]byte(text))
		if len(text) > 4096 {
			if err != api.ErrSize {
				t.Errorf("%d bytes: %v", len(text), err)
			}
			continue
		}
		if err != nil || Check(got) != nil || !alike(got, v) {
			t.Errorf("%s: %v, %v", text, got, err)
		}
		for name, x := range Names(got) {
			y, ok := Get(got, name)
			if Check(x) != nil || Check(y) != nil || !ok || !Equal(x, y) {
				t.Errorf("%s, %q: %v, %v", text, name, x, y)
			}
		}
	}
}

// P12.3: what is handed in is neither changed nor kept; and, by the rules, answers are new memory.

// scribble writes over all lists within a value, and over the room behind them.
func scribble(v api.Value) {
	for _, x := range v.List[:cap(v.List)] {
		scribble(x)
	}
	for _, p := range v.Pairs[:cap(v.Pairs)] {
		scribble(p.Value)
	}
	for i := range v.List[:cap(v.List)] {
		v.List[:cap(v.List)][i] = txt("scribbled")
	}
	for i := range v.Pairs[:cap(v.Pairs)] {
		v.Pairs[:cap(v.Pairs)][i] = with("scribbled", num(i))
	}
}

// roomy is a copy of a value with room behind each list, in which something stands.
func roomy(v api.Value) api.Value {
	var all []api.Value
	for _, x := range v.List {
		all = append(all, roomy(x))
	}
	var pairs []api.Pair
	for _, p := range v.Pairs {
		pairs = append(pairs, with(p.Name, roomy(p.Value)))
	}
	v.List = append(all, txt("behind"), num(1))[:len(v.List)]
	v.Pairs = append(pairs, with("behind", txt("b")), with("a", num(1)))[:len(v.Pairs)]
	return v
}

// behindStays tells whether all that stands in the room behind lists is there.
func behindStays(v api.Value) bool {
	for _, x := range parts(&v) {
		n, m := len(x.List), len(x.Pairs)
		all, pairs := x.List[:n+2], x.Pairs[:m+2]
		if !alike(all[n], txt("behind")) || !alike(all[n+1], num(1)) {
			return false
		}
		if pairs[m].Name != "behind" || !alike(pairs[m].Value, txt("b")) || pairs[m+1].Name != "a" || !alike(pairs[m+1].Value, num(1)) {
			return false
		}
	}
	return true
}

// samples are values that have lists within one another.
func samples() []api.Value {
	out := []api.Value{
		tokenValue(),
		object(with("b", list(num(1), list(num(2), txt("c")))), with("a", object(with("z", list(num(3))), with("y", object(with("x", num(4))))))),
		object(with("a", nested(8, 0x5a, num(1))), with("b", nested(40, 0x5a, num(1)))),
		object(with("b", list(num(1))), with("a", list(num(2))), with("a", list(num(3)))),
		object(with("a", api.Value{Kind: 9, List: []api.Value{list(num(1))}, Pairs: []api.Pair{with("q", list(num(2)))}})),
	}
	for seed := range 300 {
		chance := rand.New(rand.NewSource(int64(seed)))
		out = append(out, some(chance, 5), object(with("b", some(chance, 4)), with("a", some(chance, 4))), turned(chance, some(chance, 5)))
	}
	return out
}

func TestParseLeavesBytes(t *testing.T) {
	for _, text := range []string{`{"b": [1, "\u00e9x", {"c":"d"}], "a" : null, "a\n": "b"}`, `{"a":1,"a":2}`, `["abc", 1, `, ` "abc\ud83d\ude00" `, "", "nul", `"` + string(bytes.Repeat([]byte("a"), 4095)) + `"`} {
		whole := append([]byte("ahead"+text), "behind"...)
		kept := bytes.Clone(whole)
		v, err := Parse(whole[5 : 5+len(text)])
		again := clone(v)
		if !bytes.Equal(whole, kept) {
			t.Errorf("%.50q: changed", text)
		}
		for _, c := range []byte{0, 'z', '"', 0xff} {
			for i := range whole {
				whole[i] = c
			}
			if !alike(v, again) {
				t.Errorf("%.50q: kept", text)
			}
		}
		if x, other := Parse(kept[5 : 5+len(text)]); !alike(x, again) || other != err {
			t.Errorf("%.50q: another answer: %v, %v", text, x, other)
		}
	}
}

// TestParseIsNewMemory writes over one answer, and asks another one.
func TestParseIsNewMemory(t *testing.T) {
	text := []byte(`{"b":[1,[2,3],[]],"a":{"c":[],"d":{"e":[4]}},"f":{}}`)
	a, err := Parse(text)
	b, other := Parse(text)
	if err != nil || other != nil {
		t.Fatal(err, other)
	}
	want := clone(b)
	scribble(a)
	if !alike(b, want) {
		t.Error("two answers share memory")
	}
}

// TestParseListsAreApart grows and writes over each list of an answer, and asks the others.
func TestParseListsAreApart(t *testing.T) {
	text := []byte(`[[1,2],[3],[],[[4],[5,6]],{"a":[7],"b":[8,9]},{"a":1},{"a":2,"b":3,"c":4},{}]`)
	whole, err := Parse(text)
	if err != nil {
		t.Fatal(err)
	}
	for i := range parts(&whole) {
		v, _ := Parse(text)
		want := clone(v)
		all, wants := parts(&v), parts(&want)
		all[i].List = append(all[i].List, txt("more"))
		all[i].Pairs = append(all[i].Pairs, with("more", num(0)))
		wants[i].List = append(wants[i].List, txt("more"))
		wants[i].Pairs = append(wants[i].Pairs, with("more", num(0)))
		if !alike(v, want) {
			t.Errorf("list %d shares memory with another one", i)
		}
	}
}

func TestAsksChangeNothing(t *testing.T) {
	for _, v := range samples() {
		want := clone(v)
		a, b := roomy(v), roomy(v)
		Check(a)
		Equal(a, b)
		Equal(b, a)
		Equal(a, a)
		for _, name := range []string{"a", "b", "", "behind"} {
			Get(a, name)
		}
		for range Names(a) {
		}
		if !alike(a, want) || !alike(b, want) || !behindStays(a) || !behindStays(b) {
			t.Errorf("%v: changed", v)
		}
	}
}

func TestGetIsNewMemory(t *testing.T) {
	for _, v := range samples() {
		want := clone(v)
		for _, p := range want.Pairs {
			a := roomy(v)
			x, ok := Get(a, p.Name)
			y, _ := Get(a, p.Name)
			first := clone(x)
			if !ok && v.Kind == api.Object {
				t.Fatal(v, p.Name)
			}
			scribble(x)
			if !alike(a, want) || !behindStays(a) || !alike(y, first) {
				t.Errorf("%v, %q: shares memory with what was handed in, or with another answer", v, p.Name)
			}
			scribble(a)
			if !alike(y, first) {
				t.Errorf("%v, %q: kept", v, p.Name)
			}
		}
	}
}

// TestNamesAreNewMemory writes over all that an iterator tells, and goes through it again.
func TestNamesAreNewMemory(t *testing.T) {
	for _, v := range samples() {
		want := object()
		if v.Kind == api.Object {
			want.Pairs = clone(v).Pairs
		}
		a := roomy(v)
		all := Names(a)
		for range 2 {
			n := 0
			for name, x := range all {
				if name != want.Pairs[n].Name || !alike(x, want.Pairs[n].Value) {
					t.Fatalf("%v: %q, %v", v, name, x)
				}
				scribble(x)
				n++
			}
			if n != len(want.Pairs) || !alike(a, v) || !behindStays(a) {
				t.Errorf("%v: shares memory with what was handed in", v)
			}
		}
	}
}

// TestNamesKeepNothing writes over the value ahead of going through it, and meanwhile.
func TestNamesKeepNothing(t *testing.T) {
	for _, v := range samples() {
		if v.Kind != api.Object {
			continue
		}
		want := clone(v)
		a, b := roomy(v), roomy(v)
		ahead, meanwhile := Names(a), Names(b)
		scribble(a)
		var gone, gone2 []api.Pair
		for name, x := range ahead {
			gone = append(gone, with(name, x))
		}
		for name, x := range meanwhile {
			gone2 = append(gone2, with(name, x))
			scribble(b)
		}
		if !alike(object(gone...), object(want.Pairs...)) || !alike(object(gone2...), object(want.Pairs...)) {
			t.Errorf("%v: %v, %v", v, gone, gone2)
		}
	}
}

// TestDeepIsNewMemory has as many within one another as there may be.
func TestDeepIsNewMemory(t *testing.T) {
	const n = 1 << 16
	inmost := []api.Value{num(1)}
	v := object(with("a", nested(n-2, 0x5a5a, list(inmost...))))
	x, ok := Get(v, "a")
	all := Names(v)
	inmost[0] = num(2)
	for _, y := range all {
		if !ok || bottom(x).Int != 1 || bottom(y).Int != 1 || bottom(v).Int != 2 {
			t.Error("kept")
		}
	}
}

// bottom is what stands at the inmost place.
func bottom(v api.Value) api.Value {
	for len(v.List)+len(v.Pairs) > 0 {
		if len(v.List) > 0 {
			v = v.List[0]
		} else {
			v = v.Pairs[0].Value
		}
	}
	return v
}

// TestSameAgain asks all twice, with other asks between: nothing is kept from call to call.
func TestSameAgain(t *testing.T) {
	texts := []string{`{"a":[1,{"b":2}]}`, "[[[[[[[[1]]]]]]]]", "[[[[[[[[[1]]]]]]]]]", `{"a":1,"a":1}`, "nul", ""}
	var firsts []api.Value
	var errs []error
	for _, text := range texts {
		v, err := Parse([]byte(text))
		firsts, errs = append(firsts, v), append(errs, err)
	}
	for range 3 {
		for i, text := range texts {
			v, err := Parse([]byte(text))
			if err != errs[i] || !alike(v, firsts[i]) {
				t.Errorf("%s: %v, %v", text, v, err)
			}
		}
	}
}
