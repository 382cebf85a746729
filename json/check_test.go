package json

import (
	"math"
	"strconv"
	"strings"
	"testing"

	"cachet/api"
)

// P12.1: Check and Equal.

// sounds asks that a value is what some text is.
func sounds(t *testing.T, all ...api.Value) {
	t.Helper()
	for _, v := range all {
		if err := Check(v); err != nil || !Equal(v, v) || !Equal(v, clone(v)) {
			t.Errorf("%.200v: %v", v, err)
		}
	}
}

// unsound asks that a value is what no text is, by itself and within others; so it is equal to none, not even to itself.
func unsound(t *testing.T, all ...api.Value) {
	t.Helper()
	for _, v := range all {
		for _, x := range []api.Value{v, list(v), list(num(1), v), list(v, num(1)), object(with("a", v)), object(with("a", num(1)), with("b", v)), list(object(with("", list(v))))} {
			if err := Check(x); err != api.ErrForm {
				t.Errorf("%.200v: %v", x, err)
			}
			for _, y := range []api.Value{x, clone(x), {}, num(1), list(), object()} {
				if Equal(x, y) || Equal(y, x) {
					t.Errorf("%.200v is equal to %.200v", x, y)
				}
			}
		}
	}
}

func TestCheckKinds(t *testing.T) {
	sounds(t, api.Value{}, flag(0), flag(1), num(0), num(-1), num(1), txt(""), txt("a"), list(), object(), list(num(1)), object(with("a", num(1))))
	for _, kind := range []int{-1, 6, 7, -2, 10, 255, 256, 1 << 32, 1<<32 + 3, math.MaxInt, math.MinInt} {
		unsound(t, api.Value{Kind: kind}, api.Value{Kind: kind, Int: 1}, api.Value{Kind: kind, Text: "a"})
	}
}

func TestCheckNumbers(t *testing.T) {
	const most = 1<<53 - 1
	sounds(t, num(most), num(-most), num(most-1), num(1-most), num(1<<32), num(-1<<32))
	unsound(t, num(most+1), num(-most-1), num(most+2), num(-most-2), num(math.MaxInt), num(math.MinInt), num(math.MinInt+1))
	unsound(t, flag(2), flag(-1), flag(3), flag(256), flag(1<<32), flag(1<<32+1), flag(math.MaxInt), flag(math.MinInt))
}

func TestCheckTexts(t *testing.T) {
	for _, s := range []string{"\xff", "\x80", "\xc3", "a\xc3", "\xc3a", "\xe2\x82", "\xf0\x9f\x98", "\xc0\x80", "\xe0\x80\x80", "\xed\xa0\x80", "\xed\xbf\xbf", "\xf4\x90\x80\x80", "\xf5\x80\x80\x80", "é\xff", strings.Repeat("a", 5000) + "\xff"} {
		unsound(t, txt(s), object(with(s, num(1))), object(with("a", num(1)), with(s, num(1))))
	}
	for _, s := range []string{"", "\x00", "\x1f", "\"", "\\", "\n", "\x7f", "é", "\ufffd", "\ufeff", "\U0010ffff", "a b", "\ud7ff\ue000"} {
		sounds(t, txt(s), object(with(s, txt(s))))
	}
}

// TestCheckSpare has for each kind what it doesn't need.
func TestCheckSpare(t *testing.T) {
	kinds := []api.Value{{}, flag(1), num(1), txt("a"), list(num(1)), object(with("a", num(1))), {Kind: api.Bool}, {Kind: api.Int}, {Kind: api.Text}, {Kind: api.List}, {Kind: api.Object}}
	for _, v := range kinds {
		sounds(t, v)
		if v.Kind != api.Bool && v.Kind != api.Int {
			for _, n := range []int{1, -1, 1 << 60, math.MinInt} {
				x := v
				x.Int = n
				unsound(t, x)
			}
		}
		if v.Kind != api.Text {
			for _, s := range []string{"a", "\x00", "\xff"} {
				x := v
				x.Text = s
				unsound(t, x)
			}
		}
		if v.Kind != api.List {
			x := v
			x.List = []api.Value{{}}
			unsound(t, x)
		}
		if v.Kind != api.Object {
			x := v
			x.Pairs = []api.Pair{{}}
			unsound(t, x)
		}
	}
}

// TestEmptyIsNil has empty lists of all kinds, with room behind them or none.
func TestEmptyIsNil(t *testing.T) {
	for kind := range 6 {
		bare := api.Value{Kind: kind}
		empty := api.Value{Kind: kind, List: []api.Value{}, Pairs: []api.Pair{}}
		roomy := api.Value{Kind: kind, List: []api.Value{{Kind: 9}}[:0], Pairs: []api.Pair{{Name: "\xff"}}[:0]}
		for _, a := range []api.Value{bare, empty, roomy} {
			sounds(t, a, list(a), object(with("a", a)))
			for _, b := range []api.Value{bare, empty, roomy} {
				if !Equal(a, b) || !Equal(list(a), list(b)) || !Equal(object(with("a", a)), object(with("a", b))) {
					t.Errorf("%v isn't %v", a, b)
				}
			}
		}
	}
}

func TestCheckNames(t *testing.T) {
	sounds(t, object(with("a", num(1)), with("b", num(1)), with("", num(1)), with("A", num(1))))
	sounds(t, object(with("a", object(with("a", object(with("a", num(1))))))), list(object(with("a", num(1))), object(with("a", num(1)))))
	one := with("a", num(1))
	unsound(t,
		object(one, one),
		object(one, with("a", num(2))),
		object(one, with("b", num(1)), one),
		object(with("b", num(1)), one, one),
		object(with("", num(1)), with("", num(1))),
		object(with("é", num(1)), one, with("é", num(2))),
	)
}

func TestCheckDepth(t *testing.T) {
	for _, objects := range []int{0, -1, 0x55, 0xaa, 1, 0x80} {
		for n := range 8 {
			for _, inmost := range []api.Value{{}, num(1), txt("a"), list(), object()} {
				sounds(t, nested(n, objects, inmost))
			}
		}
		sounds(t, nested(8, objects, num(1)), nested(8, objects, api.Value{}))
		for _, v := range []api.Value{nested(8, objects, list()), nested(8, objects, object()), nested(9, objects, num(1)), nested(9, objects, api.Value{}), nested(1000, objects, num(1)), nested(1<<16, objects, num(1))} {
			if err := Check(v); err != api.ErrForm || Equal(v, v) || Equal(v, num(1)) || Equal(num(1), v) {
				t.Errorf("more than 8: %v", err)
			}
		}
	}
	deep := nested(8, 0, list())
	for _, v := range []api.Value{
		list(nested(7, 0, num(1)), deep),
		object(with("a", nested(7, 0, num(1))), with("b", nested(8, 0, num(1)))),
	} {
		if err := Check(v); err != api.ErrForm {
			t.Error(err)
		}
	}
	sounds(t, list(nested(7, 0, num(1)), nested(7, 0x55, num(2)), nested(7, -1, num(1))))
}

// TestCheckLarge has values whose texts are longer than a text that is parsed.
func TestCheckLarge(t *testing.T) {
	sounds(t, txt(strings.Repeat("a", 4097)), txt(strings.Repeat("é", 1<<20)), list(noughts(100000)...))
	var rising, falling []api.Pair
	const n = 100000
	for i := range n {
		rising = append(rising, with(strconv.Itoa(i), num(i)))
		falling = append(falling, with(strconv.Itoa(n-1-i), num(n-1-i)))
	}
	sounds(t, object(rising...))
	if !Equal(object(rising...), object(falling...)) {
		t.Error("another order")
	}
	falling[n/2].Value.Int++
	if Equal(object(rising...), object(falling...)) {
		t.Error("another value")
	}
	falling[n/2] = falling[n/2-1]
	if Check(object(falling...)) != api.ErrForm {
		t.Error("a name twice")
	}
}

// TestEqualUnlike holds values against each other, no two of which are the same.
func TestEqualUnlike(t *testing.T) {
	one, two := with("a", num(1)), with("b", num(2))
	all := []api.Value{
		{}, flag(0), flag(1), num(0), num(1), num(-1), num(1<<53 - 1), num(-(1<<53 - 1)),
		txt(""), txt("a"), txt("A"), txt("á"), txt("a\u0301"), txt("null"), txt("1"), txt("a\x00"), txt("ab"),
		list(), list(api.Value{}), list(num(0)), list(num(1)), list(num(1), num(1)), list(num(1), num(2)), list(num(2), num(1)), list(list()), list(list(), list()), list(list(num(1))), list(object()), list(txt("")), list(flag(1)),
		object(), object(one), object(two), object(one, two), object(with("a", num(2)), with("b", num(1))), object(one, with("c", num(2))), object(with("A", num(1))), object(with("a", txt("1"))), object(with("a", flag(1))), object(with("a", api.Value{})), object(with("", api.Value{})),
		object(with("a", object(one, two))), object(with("a", object(two))), object(with("a", list(num(1), num(2)))), object(with("a", list(num(2), num(1)))),
		object(one, two, with("c", num(3))), object(one, two, with("d", num(3))),
	}
	for i, a := range all {
		sounds(t, a)
		for j, b := range all {
			if Equal(a, clone(b)) != (i == j) {
				t.Errorf("%v, %v", a, b)
			}
		}
	}
}

// TestEqualInAnyOrder has each order of an object's pairs, at two depths.
func TestEqualInAnyOrder(t *testing.T) {
	inner := object(with("x", num(1)), with("y", list(num(1), num(2))), with("", txt("z")))
	outer := func(x api.Value) api.Value {
		return object(with("a", x), with("b", list(x, x)), with("c", api.Value{}))
	}
	want := outer(inner)
	for _, inners := range orders(inner.Pairs) {
		for _, outers := range orders(outer(object(inners...)).Pairs) {
			got := object(outers...)
			if !Equal(got, want) || !Equal(want, got) {
				t.Errorf("%v isn't %v", got, want)
			}
		}
	}
	turnedList := object(with("x", num(1)), with("y", list(num(2), num(1))), with("", txt("z")))
	if Equal(turnedList, inner) || Equal(outer(turnedList), want) {
		t.Error("the order of a list counts")
	}
}

// orders are all orders of some pairs.
func orders(all []api.Pair) [][]api.Pair {
	if len(all) == 0 {
		return [][]api.Pair{nil}
	}
	var out [][]api.Pair
	for _, rest := range orders(all[1:]) {
		for at := range len(rest) + 1 {
			order := append([]api.Pair{}, rest[:at]...)
			order = append(order, all[0])
			out = append(out, append(order, rest[at:]...))
		}
	}
	return out
}

// TestEqualOfTexts has texts that are written otherwise and are the same value.
func TestEqualOfTexts(t *testing.T) {
	for _, two := range [][2]string{
		{`{"a":1,"b":[true,null]}`, " { \"b\" : [ true , null ] ,\n\"a\" : 1 } "},
		{`"A\/é\ud83d\ude00"`, "\"\\u0041/\\u00E9\U0001f600\""},
		{`{"A":{"b":1,"c":2}}`, `{"\u0041":{"c":2,"\u0062":1}}`},
	} {
		a, err := Parse([]byte(two[0]))
		if err != nil {
			t.Fatal(err)
		}
		b, err := Parse([]byte(two[1]))
		if err != nil || !Equal(a, b) || !Equal(b, a) {
			t.Error(a, b, err)
		}
	}
}

// TestHoldsItself has a value within itself: calls end.
func TestHoldsItself(t *testing.T) {
	all := make([]api.Value, 1)
	all[0] = list(all...)
	pairs := make([]api.Pair, 2)
	pairs[0] = with("a", object(pairs...))
	pairs[1] = with("b", num(7))
	for _, v := range []api.Value{list(all...), object(pairs...)} {
		if Check(v) != api.ErrForm || Equal(v, v) {
			t.Error("more than 8")
		}
	}
	if x, ok := Get(object(pairs...), "b"); !ok || !alike(x, num(7)) {
		t.Error(x, ok)
	}
	if x, ok := Get(object(pairs...), "a"); !ok || x.Kind != api.Object || len(x.Pairs) != 2 {
		t.Error(x.Kind, ok)
	}
	n := 0
	for range Names(object(pairs...)) {
		n++
	}
	if n != 2 {
		t.Error(n)
	}
}
