package canon

import (
	"bytes"
	stdjson "encoding/json"
	"math/rand"
	"strings"
	"testing"

	"cachet/api"
	"cachet/json"
)

// P13.2: what is put is parsed to the same value; the same values are put to the same text, and unlike ones to unlike texts.

// plainText is the text of a value, which is what some text is, by the language's own library.
func plainText(t *testing.T, v api.Value) string {
	t.Helper()
	var out bytes.Buffer
	enc := stdjson.NewEncoder(&out)
	enc.SetEscapeHTML(false)
	if err := enc.Encode(plainValue(v)); err != nil {
		t.Fatal(err)
	}
	// The library writes two signs otherwise; no text of the values in disorder has a backslash ahead of u2028.
	text := strings.TrimSuffix(out.String(), "\n")
	return strings.NewReplacer(`\u2028`, "\u2028", `\u2029`, "\u2029").Replace(text)
}

// plainValue is a value as the library has it; it sorts the names of a map by their bytes.
func plainValue(v api.Value) any {
	switch v.Kind {
	case api.Bool:
		return v.Int == 1
	case api.Int:
		return v.Int
	case api.Text:
		return v.Text
	case api.List:
		all := []any{}
		for _, x := range v.List {
			all = append(all, plainValue(x))
		}
		return all
	case api.Object:
		all := map[string]any{}
		for _, p := range v.Pairs {
			all[p.Name] = plainValue(p.Value)
		}
		return all
	}
	return nil
}

func TestPutIsParsed(t *testing.T) {
	for seed := range 10000 {
		chance := rand.New(rand.NewSource(int64(seed)))
		v := some(chance, 1+seed%8)
		want := plainText(t, v)
		if len(want) > 4096 {
			refuses(t, api.ErrSize, v)
			continue
		}
		puts(t, v, want)
		for range 3 {
			puts(t, mixed(chance, v), want)
		}
	}
}

// TestUnlikeTexts holds texts against each other as the values are.
func TestUnlikeTexts(t *testing.T) {
	checked := 0
	for seed := range 20000 {
		chance := rand.New(rand.NewSource(int64(seed)))
		a := some(chance, 4)
		b := mixed(chance, turned(chance, a))
		first, err := Put(a)
		if err != nil {
			t.Fatal(a, err)
		}
		second, err := Put(b)
		if (err != nil) != (json.Check(b) != nil) {
			t.Errorf("%v: %v", b, err)
		}
		if err == nil {
			checked++
			if (string(first) == string(second)) != json.Equal(a, b) {
				t.Errorf("%v and %v: %s and %s", a, b, first, second)
			}
		}
	}
	if checked < 5000 {
		t.Error("too few to hold against each other:", checked)
	}
}

// TestUnlikeValues has values, no two of which are the same.
func TestUnlikeValues(t *testing.T) {
	one, two := with("a", num(1)), with("b", num(2))
	all := []api.Value{
		{}, flag(0), flag(1), num(0), num(1), num(-1), num(1<<53 - 1), num(-(1<<53 - 1)),
		txt(""), txt("a"), txt("A"), txt("á"), txt("a\u0301"), txt("null"), txt("1"), txt("a\x00"), txt("ab"), txt("\n"), txt(`\n`), txt(`\u000a`), txt(`"`), txt(`\"`), txt(`\`), txt(`\\`), txt("/"), txt(`\/`), txt("\u007f"), txt("\ufffd"),
		list(), list(api.Value{}), list(num(0)), list(num(1)), list(num(1), num(1)), list(num(1), num(2)), list(num(2), num(1)), list(num(12)), list(list()), list(list(), list()), list(list(num(1))), list(object()), list(txt("")), list(flag(1)), list(txt("a,b")), list(txt("a"), txt("b")), list(txt(`a","b`)),
		object(), object(one), object(two), object(one, two), object(with("a", num(2)), with("b", num(1))), object(one, with("c", num(2))), object(with("A", num(1))), object(with("a", txt("1"))), object(with("a", flag(1))), object(with("a", api.Value{})), object(with("", api.Value{})), object(with(`a":1,"b`, num(2))),
		object(with("a", object(one, two))), object(with("a", object(two))), object(with("a", list(num(1), num(2)))), object(with("a", list(num(2), num(1)))),
		object(one, two, with("c", num(3))), object(one, two, with("d", num(3))), object(with("a", object(one)), two), object(with("a", object(one, two))),
	}
	texts := map[string]int{}
	for i, v := range all[:len(all)-1] {
		text, err := Put(v)
		if err != nil || !Is(text) {
			t.Errorf("%v: %s, %v", v, text, err)
		}
		if j, twice := texts[string(text)]; twice {
			t.Errorf("%v and %v: %s", all[j], v, text)
		}
		texts[string(text)] = i
	}
	// The last one stands there already.
	if text, _ := Put(all[len(all)-1]); texts[string(text)] == 0 {
		t.Errorf("%s", text)
	}
}

// TestShortTexts has every short text out of some signs: it is canonical just when it is parsed and put to itself.
func TestShortTexts(t *testing.T) {
	const signs = "\"\\[]{},: 01-anbu"
	most := 5
	if testing.Short() {
		most = 4
	}
	values := map[string]int{}
	var all func(text string, left int)
	all = func(text string, left int) {
		v, err := json.Parse([]byte(text))
		want := err == nil && plainText(t, v) == text
		if Is([]byte(text)) != want {
			t.Errorf("%s: canonical: %v", text, !want)
		}
		if err == nil {
			if b, err := Put(v); err != nil || !Is(b) || (string(b) == text) != want {
				t.Errorf("%s: %s, %v", text, b, err)
			}
		}
		if want {
			values[text]++
		}
		if left > 0 {
			for i := range len(signs) {
				all(text+signs[i:i+1], left-1)
			}
		}
	}
	all("", most)
	if len(values) < 200 {
		t.Error("too few canonical texts:", len(values))
	}
}

// TestTurnedBytes has canonical texts in which a byte is another one, is taken out or is put in.
func TestTurnedBytes(t *testing.T) {
	for seed := range 20000 {
		chance := rand.New(rand.NewSource(int64(seed)))
		first, err := Put(some(chance, 3))
		if err != nil {
			t.Fatal(err)
		}
		at := chance.Intn(len(first))
		sign := " \"\\,:[]{}0a\n\xff"[chance.Intn(13)]
		text := bytes.Clone(first)
		switch chance.Intn(3) {
		case 0:
			text[at] = sign
		case 1:
			text = append(text[:at], text[at+1:]...)
		case 2:
			text = append(append(bytes.Clone(text[:at]), sign), text[at:]...)
		}
		v, err := json.Parse(text)
		if want := err == nil && plainText(t, v) == string(text); Is(text) != want {
			t.Errorf("%s: canonical: %v", text, !want)
		}
	}
}
