package canon

import (
	"math/rand"
	"reflect"
	"strings"
	"testing"

	"cachet/api"
	"cachet/json"
)

// Short forms of values.

func num(n int) api.Value { return api.Value{Kind: api.Int, Int: n} }

func txt(s string) api.Value { return api.Value{Kind: api.Text, Text: s} }

func flag(n int) api.Value { return api.Value{Kind: api.Bool, Int: n} }

func list(all ...api.Value) api.Value { return api.Value{Kind: api.List, List: all} }

func object(all ...api.Pair) api.Value { return api.Value{Kind: api.Object, Pairs: all} }

func with(name string, v api.Value) api.Pair { return api.Pair{Name: name, Value: v} }

// nested is n lists within one another, or objects where the bit of that place is set, around something.
func nested(n int, objects int, inmost api.Value) api.Value {
	for i := range n {
		if objects>>(i%62)&1 == 1 {
			inmost = object(with("a", inmost))
		} else {
			inmost = list(inmost)
		}
	}
	return inmost
}

// nestedText is the text of nested, around some text.
func nestedText(n int, objects int, inmost string) string {
	for i := range n {
		if objects>>(i%62)&1 == 1 {
			inmost = `{"a":` + inmost + `}`
		} else {
			inmost = "[" + inmost + "]"
		}
	}
	return inmost
}

// clone is a value that shares nothing with the one that it is a copy of, with nil for each empty list.
func clone(v api.Value) api.Value {
	out := api.Value{Kind: v.Kind, Int: v.Int, Text: strings.Clone(v.Text)}
	for _, x := range v.List {
		out.List = append(out.List, clone(x))
	}
	for _, p := range v.Pairs {
		out.Pairs = append(out.Pairs, with(strings.Clone(p.Name), clone(p.Value)))
	}
	return out
}

// alike tells whether two values are the same field by field, pairs in their order; nil and empty lists are.
func alike(a, b api.Value) bool { return reflect.DeepEqual(clone(a), clone(b)) }

// puts asks that a value is put to that text, which is then canonical, and the value again (P13.2).
func puts(t *testing.T, v api.Value, want string) {
	t.Helper()
	text, err := Put(v)
	if err != nil || string(text) != want {
		t.Errorf("%.200v: %.200s, %v", v, text, err)
		return
	}
	if !Is(text) {
		t.Errorf("%.200s isn't canonical", text)
	}
	back, err := json.Parse(text)
	if err != nil || !alike(back, Sorted(v)) || !json.Equal(back, v) {
		t.Errorf("%.200s: %.200v, %v", text, back, err)
	}
	if again, err := Put(back); err != nil || string(again) != want {
		t.Errorf("%.200s: again %.200s, %v", text, again, err)
	}
}

// refuses asks that values have no text, for a reason.
func refuses(t *testing.T, want error, all ...api.Value) {
	t.Helper()
	for _, v := range all {
		if text, err := Put(v); err != want || len(text) > 0 {
			t.Errorf("%.200v: %.200s, %v", v, text, err)
		}
	}
}

// word is a text that some value in disorder has.
func word(chance *rand.Rand) string {
	words := [...]string{"", "a", "b", "ab", "A", "é", "\U0001f600", "\"", "\\", "\x00", "\n", "\u007f", "�", "a b", "/"}
	return words[chance.Intn(len(words))]
}

// some is a value in disorder, with at most so many within one another, that some text is.
func some(chance *rand.Rand, depth int) api.Value {
	kinds := 6
	if depth == 0 {
		kinds = 4
	}
	switch chance.Intn(kinds) {
	case api.Null:
		return api.Value{}
	case api.Bool:
		return flag(chance.Intn(2))
	case api.Int:
		edges := [...]int{0, 1, -1, 10, -10, 1<<53 - 1, -(1<<53 - 1), chance.Intn(1000)}
		return num(edges[chance.Intn(len(edges))])
	case api.Text:
		return txt(word(chance) + word(chance))
	case api.List:
		var all []api.Value
		for range chance.Intn(4) {
			all = append(all, some(chance, depth-1))
		}
		return list(all...)
	}
	names := map[string]int{}
	var all []api.Pair
	for range chance.Intn(4) {
		name := word(chance)
		if names[name]++; names[name] == 1 {
			all = append(all, with(name, some(chance, depth-1)))
		}
	}
	return object(all...)
}

// parts are all values within a value, itself first.
func parts(v *api.Value) []*api.Value {
	out := []*api.Value{v}
	for i := range v.List {
		out = append(out, parts(&v.List[i])...)
	}
	for i := range v.Pairs {
		out = append(out, parts(&v.Pairs[i].Value)...)
	}
	return out
}

// turned is a copy of a value in which something somewhere is another: what comes out may be what some text is, or not.
func turned(chance *rand.Rand, v api.Value) api.Value {
	v = clone(v)
	all := parts(&v)
	x := all[chance.Intn(len(all))]
	switch chance.Intn(8) {
	case 0:
		x.Kind = chance.Intn(8) - 1
	case 1:
		edges := [...]int{0, 1, -1, 2, 1<<53 - 1, 1 << 53, -(1<<53 - 1), -(1 << 53)}
		x.Int = edges[chance.Intn(len(edges))]
	case 2:
		x.Text = [...]string{"", "a", "\xff", "\xc3", "\xed\xa0\x80", "é"}[chance.Intn(6)]
	case 3:
		x.List = append(x.List, some(chance, 1))
	case 4:
		x.Pairs = append(x.Pairs, with(word(chance), some(chance, 1)))
	case 5:
		*x = some(chance, 1)
	case 6:
		if n := len(x.Pairs); n > 0 {
			x.Pairs[chance.Intn(n)].Name = [...]string{"", "a", "b", "\xff"}[chance.Intn(4)]
		}
	case 7:
		chance.Shuffle(len(x.List), func(i, j int) { x.List[i], x.List[j] = x.List[j], x.List[i] })
	}
	return v
}

// mixed is a copy of a value in which the pairs of all objects stand in another order.
func mixed(chance *rand.Rand, v api.Value) api.Value {
	v = clone(v)
	for _, x := range parts(&v) {
		chance.Shuffle(len(x.Pairs), func(i, j int) { x.Pairs[i], x.Pairs[j] = x.Pairs[j], x.Pairs[i] })
	}
	return v
}
