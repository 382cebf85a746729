package json

import (
	"bytes"
	stdjson "encoding/json"
	"math/big"
	"math/rand"
	"reflect"
	"regexp"
	"slices"
	"strconv"
	"strings"
	"testing"
	"unicode/utf8"

	"cachet/api"
)

// What the chapter says, another way: the library reads a text, and what it
// takes beyond the chapter's form is taken out of what it reads.

var (
	wholeNumber = regexp.MustCompile(`^(0|-?[1-9][0-9]*)$`)
	backslash   = regexp.MustCompile(`\\(u[0-9a-fA-F]{4}|.)`)
	farthest    = big.NewInt(1<<53 - 1)
)

// plainParse is the value of a text; false, if it is none.
func plainParse(b []byte) (api.Value, bool) {
	if !utf8.Valid(b) || !stdjson.Valid(b) || hasHalf(b) {
		return api.Value{}, false
	}
	d := stdjson.NewDecoder(bytes.NewReader(b))
	d.UseNumber()
	return plainValue(d, 0)
}

// hasHalf tells whether a half stands alone in what the library takes.
func hasHalf(b []byte) bool {
	end := -1 // where a first half ended to which a second one may come
	for _, at := range backslash.FindAllIndex(b, -1) {
		n := 0
		if at[1]-at[0] == 6 {
			x, err := strconv.ParseInt(string(b[at[0]+2:at[1]]), 16, 32)
			if err != nil {
				panic(err)
			}
			n = int(x)
		}
		second := n >= 0xdc00 && n <= 0xdfff
		if second != (end == at[0]) || end >= 0 && end != at[0] {
			return true
		}
		end = -1
		if n >= 0xd800 && n <= 0xdbff {
			end = at[1]
		}
	}
	return end >= 0
}

func plainValue(d *stdjson.Decoder, around int) (api.Value, bool) {
	token, err := d.Token()
	if err != nil {
		return api.Value{}, false
	}
	switch x := token.(type) {
	case bool:
		if x {
			return flag(1), true
		}
		return flag(0), true
	case stdjson.Number:
		n, ok := new(big.Int).SetString(x.String(), 10)
		if !ok || !wholeNumber.MatchString(x.String()) || n.CmpAbs(farthest) > 0 {
			return api.Value{}, false
		}
		return num(int(n.Int64())), true
	case string:
		return txt(x), true
	case stdjson.Delim:
		if around == 8 {
			return api.Value{}, false
		}
		return plainRow(d, x == '{', around+1)
	}
	return api.Value{}, true
}

func plainRow(d *stdjson.Decoder, isObject bool, around int) (api.Value, bool) {
	out := list()
	if isObject {
		out = object()
	}
	for d.More() {
		name := ""
		if isObject {
			token, err := d.Token()
			if err != nil {
				return api.Value{}, false
			}
			name = token.(string)
			if slices.ContainsFunc(out.Pairs, func(p api.Pair) bool { return p.Name == name }) {
				return api.Value{}, false
			}
		}
		x, ok := plainValue(d, around)
		if !ok {
			return api.Value{}, false
		}
		if isObject {
			out.Pairs = append(out.Pairs, with(name, x))
		} else {
			out.List = append(out.List, x)
		}
	}
	_, err := d.Token()
	return out, err == nil
}

// written is a text of a value, as well as it can be told; false, if its kind has none.
func written(v api.Value) (string, bool) {
	switch v.Kind {
	case api.Null:
		return "null", true
	case api.Bool:
		return strconv.FormatBool(v.Int != 0), true
	case api.Int:
		return strconv.Itoa(v.Int), true
	case api.Text:
		return writtenText(v.Text), true
	case api.List, api.Object:
		var all []string
		for _, x := range v.List {
			text, ok := written(x)
			if !ok {
				return "", false
			}
			all = append(all, text)
		}
		for _, p := range v.Pairs {
			text, ok := written(p.Value)
			if !ok {
				return "", false
			}
			all = append(all, writtenText(p.Name)+":"+text)
		}
		if v.Kind == api.Object {
			return "{" + strings.Join(all, ",") + "}", true
		}
		return "[" + strings.Join(all, ",") + "]", true
	}
	return "", false
}

func writtenText(s string) string {
	var out strings.Builder
	for _, c := range []byte(s) {
		if c < 0x20 || c == '"' || c == '\\' {
			out.WriteString(`\u00` + strconv.FormatInt(int64(c>>4), 16) + strconv.FormatInt(int64(c&15), 16))
		} else {
			out.WriteByte(c)
		}
	}
	return `"` + out.String() + `"`
}

// plainCheck tells whether a value is what some text is: its own one, then.
func plainCheck(v api.Value) bool {
	text, ok := written(v)
	if !ok {
		return false
	}
	x, ok := plainParse([]byte(text))
	return ok && alike(v, x)
}

// plainEqual holds values against each other with the pairs of all objects by their names.
func plainEqual(a, b api.Value) bool {
	return plainCheck(a) && plainCheck(b) && reflect.DeepEqual(ordered(a), ordered(b))
}

func ordered(v api.Value) api.Value {
	v = clone(v)
	for _, x := range parts(&v) {
		slices.SortFunc(x.Pairs, func(a, b api.Pair) int { return strings.Compare(a.Name, b.Name) })
	}
	return v
}

// held asks what Parse answers of a text, against the library.
func held(t *testing.T, text []byte) bool {
	t.Helper()
	want, ok := plainParse(text)
	got, err := Parse(text)
	if (err == nil) != ok || !alike(got, want) || err != nil && err != api.ErrForm {
		t.Errorf("%q: %v, %v; want %v, %v", text, got, err, want, ok)
	}
	if ok && (Check(got) != nil || !Equal(got, got)) {
		t.Errorf("%q: %v isn't checked", text, got)
	}
	return ok
}

// TestPlain asks the other way itself.
func TestPlain(t *testing.T) {
	for _, text := range []string{`"\ud83d\ude00"`, `"\\ud800"`, `"\ud83d\ude00\ud83d\ude00"`, `[1,{"a":"\\\\"}]`, "[[[[[[[[1]]]]]]]]"} {
		if _, ok := plainParse([]byte(text)); !ok {
			t.Error(text)
		}
	}
	for _, text := range []string{`"\ud83d"`, `"\ude00"`, `"\ud83d\\ude00"`, `"\ud83d\ud83d\ude00"`, `"\ud83d \ude00"`, `"\ud83d\n"`, "-0", "1.0", `{"a":1,"a":1}`, "[[[[[[[[[1]]]]]]]]]"} {
		if _, ok := plainParse([]byte(text)); ok {
			t.Error(text)
		}
	}
}

// TestAllShort asks every text of few signs out of some.
func TestAllShort(t *testing.T) {
	for _, set := range []struct {
		signs string
		most  int
	}{
		{"[]{},:\"a1 ", 6},
		{"-0129.e+ ", 6},
		{"[]{}1,\n\t\r\v", 5},
		{"\"\\u0aDd8cfn/x", 5},
	} {
		if testing.Short() {
			set.most-- // all of them take seconds
		}
		taken := 0
		var grow func(text []byte, more int)
		grow = func(text []byte, more int) {
			if held(t, text) {
				taken++
			}
			if more > 0 && !t.Failed() {
				for _, c := range []byte(set.signs) {
					grow(append(slices.Clip(text), c), more-1)
				}
			}
		}
		grow(nil, set.most)
		if taken == 0 {
			t.Error(set.signs)
		}
	}
}

// TestAllHalves asks every two and three out of what may stand beside halves.
func TestAllHalves(t *testing.T) {
	pieces := []string{`\ud800`, `\uDBFF`, `\udc00`, `\uDfFf`, `\ud7ff`, `\ue000`, `\`, `\\`, `u`, `udc00`, `a`, `\n`, "\U0001f600", "", `\u`, `\uffff`}
	for _, a := range pieces {
		for _, b := range pieces {
			for _, c := range pieces {
				held(t, []byte(`"`+a+b+c+`"`))
				held(t, []byte(`{"`+a+b+`":"`+c+`"}`))
			}
		}
	}
}

// TestTurnedTexts asks texts of values in disorder, with signs taken out, put in or changed.
func TestTurnedTexts(t *testing.T) {
	signs := []string{"[", "]", "{", "}", ",", ":", "\"", "\\", "0", "1", "-", ".", "e", " ", "\n", "\t", "\r", "null", "true", "false", "a", "u", "\x00", "\x1f", "\x7f", "\x80", "\xc3", "\xff", "é", `\u0041`, `\ud83d`, `\ude00`, `"a":`, "\ufeff"}
	taken := 0
	const rounds = 60000
	for seed := range rounds {
		chance := rand.New(rand.NewSource(int64(seed)))
		whole, _ := written(some(chance, 9))
		text := []byte(whole)
		for range chance.Intn(4) {
			at := chance.Intn(len(text) + 1)
			end := min(len(text), at+chance.Intn(3))
			text = slices.Concat(text[:at], []byte(signs[chance.Intn(len(signs))]), text[end:])
		}
		if len(text) <= 4096 && held(t, text) {
			taken++
		}
	}
	if taken < rounds/10 || taken > rounds/10*9 {
		t.Error(taken)
	}
}

// TestTurnedValues asks Check and Equal of values in disorder.
func TestTurnedValues(t *testing.T) {
	sound, equal := 0, 0
	const rounds = 60000
	for seed := range rounds {
		chance := rand.New(rand.NewSource(int64(seed)))
		a := some(chance, 9)
		if chance.Intn(2) == 0 {
			a = turned(chance, a)
		}
		b := mixed(chance, a)
		if chance.Intn(2) == 0 {
			b = turned(chance, b)
		}
		want := plainCheck(a)
		if err := Check(a); (err == nil) != want || err != nil && err != api.ErrForm {
			t.Errorf("%v: %v", a, err)
		}
		same := plainEqual(a, b)
		if Equal(a, b) != same || Equal(b, a) != same {
			t.Errorf("%v, %v: not %v", a, b, same)
		}
		if want {
			sound++
		}
		if same {
			equal++
		}
	}
	if sound < rounds/10 || sound > rounds/10*9 || equal < rounds/10 || equal > rounds/10*9 {
		t.Error(sound, equal)
	}
}
