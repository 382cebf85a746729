package canon

import (
	"math"
	"strconv"
	"strings"
	"testing"

	"cachet/api"
	"cachet/json"
)

// P13.1: Put.

func TestPutExample(t *testing.T) {
	v, err := json.Parse([]byte(`{ "b" : 1, "a" : "\u0041" }`))
	if err != nil {
		t.Fatal(err)
	}
	puts(t, v, `{"a":"A","b":1}`)
}

func TestPutKinds(t *testing.T) {
	puts(t, api.Value{}, "null")
	puts(t, flag(0), "false")
	puts(t, flag(1), "true")
	puts(t, num(7), "7")
	puts(t, txt("a"), `"a"`)
	puts(t, txt(""), `""`)
	puts(t, list(num(1)), "[1]")
	puts(t, list(num(1), txt("1"), flag(1), api.Value{}, list(), object()), `[1,"1",true,null,[],{}]`)
	puts(t, object(with("a", num(1))), `{"a":1}`)
	puts(t, object(with("", api.Value{})), `{"":null}`)
	puts(t, object(with("b", list(num(3), num(2), num(1))), with("a", object(with("d", flag(0)), with("c", flag(1))))), `{"a":{"c":true,"d":false},"b":[3,2,1]}`)
}

func TestPutEmpty(t *testing.T) {
	for _, v := range []api.Value{list(), {Kind: api.List, List: []api.Value{}, Pairs: []api.Pair{}}, {Kind: api.List, List: []api.Value{num(1)}[:0]}} {
		puts(t, v, "[]")
		puts(t, list(v), "[[]]")
		puts(t, list(v, v), "[[],[]]")
		puts(t, object(with("a", v)), `{"a":[]}`)
	}
	for _, v := range []api.Value{object(), {Kind: api.Object, List: []api.Value{}, Pairs: []api.Pair{}}, {Kind: api.Object, Pairs: []api.Pair{with("a", num(1))}[:0]}} {
		puts(t, v, "{}")
		puts(t, list(v, v), "[{},{}]")
		puts(t, object(with("a", v)), `{"a":{}}`)
	}
}

func TestPutNumbers(t *testing.T) {
	const most = 1<<53 - 1
	puts(t, num(0), "0")
	puts(t, num(-1), "-1")
	puts(t, num(most), "9007199254740991")
	puts(t, num(-most), "-9007199254740991")
	for n := 1; n < most; n = n*10 + 3 {
		for _, m := range []int{n, -n, n - 1, n + 1} {
			puts(t, num(m), strconv.Itoa(m))
			puts(t, list(num(m), num(-m)), "["+strconv.Itoa(m)+","+strconv.Itoa(-m)+"]")
		}
	}
	for n := 1; n <= most/10; n *= 10 {
		puts(t, num(n), "1"+strings.Repeat("0", len(strconv.Itoa(n))-1))
	}
}

func TestPutDepth(t *testing.T) {
	for _, objects := range []int{0, -1, 0x55, 0xaa, 1, 0x80} {
		for n := range 8 {
			puts(t, nested(n, objects, num(1)), nestedText(n, objects, "1"))
			puts(t, nested(n, objects, list()), nestedText(n, objects, "[]"))
			puts(t, nested(n, objects, object()), nestedText(n, objects, "{}"))
		}
		puts(t, nested(8, objects, num(1)), nestedText(8, objects, "1"))
		refuses(t, api.ErrForm, nested(8, objects, list()), nested(8, objects, object()), nested(9, objects, num(1)), nested(9, objects, api.Value{}), nested(5000, objects, num(1)), nested(1<<16, objects, num(1)))
	}
}

// wrong are values that are what no text is.
func wrong() []api.Value {
	one := with("a", num(1))
	return []api.Value{
		{Kind: -1}, {Kind: 6}, {Kind: 7, Int: 1}, {Kind: 1 << 32}, {Kind: math.MinInt}, {Kind: math.MaxInt, Text: "a"},
		flag(2), flag(-1), flag(1 << 32), flag(math.MinInt),
		num(1 << 53), num(-1 << 53), num(1<<53 + 1), num(math.MaxInt), num(math.MinInt),
		txt("\xff"), txt("a\xc3"), txt("\xed\xa0\x80"), txt("\xc0\x80"), txt("\xf4\x90\x80\x80"),
		object(with("\xff", num(1))), object(one, with("b\x80", num(1))), object(with("\xed\xb0\x80", num(1))),
		object(one, one), object(one, with("a", num(2))), object(one, with("b", num(1)), one), object(with("", num(1)), with("", num(1))),
		{Int: 1}, {Text: "a"}, {List: []api.Value{{}}}, {Pairs: []api.Pair{{}}},
		{Kind: api.Bool, Text: "a"}, {Kind: api.Bool, List: []api.Value{{}}}, {Kind: api.Bool, Int: 1, Pairs: []api.Pair{{}}},
		{Kind: api.Int, Text: "1"}, {Kind: api.Int, List: []api.Value{{}}}, {Kind: api.Int, Pairs: []api.Pair{{}}},
		{Kind: api.Text, Int: 1}, {Kind: api.Text, Text: "a", List: []api.Value{{}}}, {Kind: api.Text, Pairs: []api.Pair{{}}},
		{Kind: api.List, Int: 1}, {Kind: api.List, Text: "a"}, {Kind: api.List, Pairs: []api.Pair{one}},
		{Kind: api.Object, Int: 1}, {Kind: api.Object, Text: "a"}, {Kind: api.Object, List: []api.Value{{}}},
	}
}

func TestPutRefuses(t *testing.T) {
	long := txt(strings.Repeat("a", 5000))
	for _, v := range wrong() {
		if json.Check(v) != api.ErrForm {
			t.Errorf("%v", v)
		}
		refuses(t, api.ErrForm, v, list(v), list(num(1), v), list(v, num(1)), object(with("a", v)), object(with("b", num(1)), with("a", v)), nested(7, 0x55, v))
		// Both too long and wrong: the first one that is told is the form.
		refuses(t, api.ErrForm, list(v, long), list(long, v), object(with("b", v), with("a", long)), object(with(long.Text, v)), list(long, list(long, long), v))
	}
	refuses(t, api.ErrForm, txt(strings.Repeat("a", 5000)+"\xff"), nested(9, 0, long), list(long, nested(8, -1, num(1))))
	refuses(t, api.ErrForm, object(with(long.Text, num(1)), with(long.Text, num(1))))
}

// TestPutSize has texts of 4096 bytes and of 4097, where what is one too many stands anywhere.
func TestPutSize(t *testing.T) {
	a := func(n int) string { return strings.Repeat("a", n) }
	noughts := func(n int) []api.Value {
		out := make([]api.Value, n)
		for i := range out {
			out[i] = num(0)
		}
		return out
	}
	for over := range 4 {
		for _, c := range []struct {
			v    api.Value
			want string
		}{
			{txt(a(4094 + over)), `"` + a(4094+over) + `"`},
			{txt("é" + a(4092+over)), `"é` + a(4092+over) + `"`},
			{txt("\n" + a(4092+over)), `"\n` + a(4092+over) + `"`},
			{txt(a(4088+over) + "\x01"), `"` + a(4088+over) + `\u0001"`},
			{txt(strings.Repeat("\x1f", 682) + a(2+over)), `"` + strings.Repeat(`\u001f`, 682) + a(2+over) + `"`},
			{txt(strings.Repeat(`"`, 2047) + a(over)), `"` + strings.Repeat(`\"`, 2047) + a(over) + `"`},
			{list(txt(a(4092 + over))), `["` + a(4092+over) + `"]`},
			{list(txt(a(4090+over)), num(7)), `["` + a(4090+over) + `",7]`},
			{list(num(7), txt(a(4090+over))), `[7,"` + a(4090+over) + `"]`},
			{object(with(a(4090+over), num(7))), `{"` + a(4090+over) + `":7}`},
			{object(with("b", txt(a(4088+over)))), `{"b":"` + a(4088+over) + `"}`},
			{object(with("b", num(1)), with("a", txt(a(4082+over)))), `{"a":"` + a(4082+over) + `","b":1}`},
			{list(append(noughts(2046), num([]int{10, 100, 1000, 10000}[over]))...), "[" + strings.Repeat("0,", 2046) + "1" + strings.Repeat("0", over+1) + "]"},
			{list(append(noughts(2044), txt(a(1+over)), num(-1))...), "[" + strings.Repeat("0,", 2044) + `"` + a(1+over) + `",-1]`},
			{list(txt(a(4089+over)), list()), `["` + a(4089+over) + `",[]]`},
		} {
			if len(c.want) != 4096+over {
				t.Errorf("%d bytes, %d over", len(c.want), over)
			}
			if over == 0 {
				puts(t, c.v, c.want)
			} else {
				refuses(t, api.ErrSize, c.v)
			}
			if Is([]byte(c.want)) != (len(c.want) <= 4096) {
				t.Errorf("a text of %d bytes", len(c.want))
			}
		}
	}
	refuses(t, api.ErrSize, list(noughts(1<<20)...), txt(a(1<<24)), object(with(a(1<<20), num(1))), txt(strings.Repeat("\x00", 683)), list(txt(a(4096)), num(1)), list(txt(a(4095))), txt(a(4095)), txt(a(4096)), txt(a(4097)))
	refuses(t, api.ErrSize, list(list(txt(a(4090))), num(1)), list(txt(a(4000)), txt(a(5000)), num(1)), object(with("b", num(1)), with("a", txt(a(4500))), with("c", num(1))))
}
