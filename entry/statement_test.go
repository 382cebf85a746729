package entry

import (
	"fmt"
	"slices"
	"strings"
	"testing"

	"cachet/api"
)

// P15.1: statements' texts and their subjects. What holdsStatement asks holds the entries with such a payload, too.

// isStatement asks that payloads are statements' texts.
func isStatement(t *testing.T, all ...string) {
	t.Helper()
	for _, s := range all {
		if !holdsStatement(t, s) {
			t.Errorf("%.300q is none", s)
		}
	}
}

// noStatement asks that payloads are no statements' texts.
func noStatement(t *testing.T, all ...string) {
	t.Helper()
	for _, s := range all {
		if holdsStatement(t, s) {
			t.Errorf("%.300q is one", s)
		}
	}
}

// The pairs of a statement's text, and a text of some pairs.
const (
	form      = `"_type":"https://in-toto.io/Statement/v1"`
	predicate = `"predicate":{"x":[1]}`
	kind      = `"predicateType":"p"`
)

func about(subjects ...string) string { return `"subject":[` + strings.Join(subjects, ",") + `]` }

func braced(all ...string) string { return "{" + strings.Join(all, ",") + "}" }

func TestSubjects(t *testing.T) {
	got, err := Subjects([]byte(statement(subject("b", 2), subject("a", 1), subject("b", 2), subject("c", 2))))
	want := []api.Subject{{Name: "b", Digest: digest(2)}, {Name: "a", Digest: digest(1)}, {Name: "b", Digest: digest(2)}, {Name: "c", Digest: digest(2)}}
	if err != nil || !slices.Equal(got, want) {
		t.Error(got, err)
	}
	got, err = Subjects([]byte(`{"_type":"https://in-toto.io/Statement/v1","predicate":{},"predicateType":"p","subject":[{"digest":{"sha256":"000102030405060708090a0b0c0d0e0f101112131415161718191a1b1c1d1eff"},"name":"\u00e9\n"}]}`))
	d := api.Sum{31: 0xff}
	for i := range 31 {
		d[i] = byte(i)
	}
	if err != nil || len(got) != 1 || got[0].Name != "é\n" || got[0].Digest != d {
		t.Error(got, err)
	}
}

func TestHowManySubjects(t *testing.T) {
	short := func(n int) string {
		return fmt.Sprintf(`{"name":"%c","digest":{"sha256":"%s"}}`, 'a'+n, figures(n))
	}
	var all []string
	for n := range 19 {
		text := braced(form, predicate, kind, about(all...))
		if len(text) > 2048 {
			t.Fatal("too long for the edge:", len(text))
		}
		if holdsStatement(t, text) != (1 <= n && n <= 16) {
			t.Errorf("%d subjects", n)
		}
		got, err := Subjects([]byte(text))
		if 1 <= n && n <= 16 && (err != nil || len(got) != n || got[n-1].Digest != digest(n-1)) {
			t.Errorf("%d subjects: %v, %v", n, got, err)
		}
		all = append(all, short(n))
	}
	one := subject("a", 1)
	noStatement(t,
		braced(form, predicate, kind, `"subject":{}`), braced(form, predicate, kind, `"subject":`+one), braced(form, predicate, kind, `"subject":null`), braced(form, predicate, kind, `"subject":"a"`), braced(form, predicate, kind, `"subject":1`), braced(form, predicate, kind, `"subject":true`),
		braced(form, predicate, kind, about("[]")), braced(form, predicate, kind, about("null")), braced(form, predicate, kind, about(`"a"`)), braced(form, predicate, kind, about("1")), braced(form, predicate, kind, about("{}")), braced(form, predicate, kind, about("["+one+"]")), braced(form, predicate, kind, about(one, "{}")), braced(form, predicate, kind, about("null", one)), braced(form, predicate, kind, about(one, one, "1")),
	)
}

func TestSubjectNames(t *testing.T) {
	named := func(name string) string {
		return statement(`{"name":` + plainJSON(name) + `,"digest":{"sha256":"` + figures(1) + `"}}`)
	}
	for _, name := range []string{"a", "A B", " ", "\x00", "\n", "é", "😀", `"\`, "cachet/x", "key:", strings.Repeat("a", 63), strings.Repeat("a", 64), strings.Repeat("é", 32), strings.Repeat("😀", 16), strings.Repeat("\x01", 64), strings.Repeat("a", 63) + "\n"} {
		isStatement(t, named(name))
		if got, err := Subjects([]byte(named(name))); err != nil || len(got) != 1 || got[0].Name != name {
			t.Errorf("%q: %v, %v", name, got, err)
		}
	}
	for _, name := range []string{"", strings.Repeat("a", 65), strings.Repeat("a", 1000), strings.Repeat("é", 33), "a" + strings.Repeat("é", 32), strings.Repeat("😀", 17)} {
		noStatement(t, named(name))
	}
	// Bytes are counted as they are meant, not as they are written.
	isStatement(t, statement(`{"name":"`+strings.Repeat(`\u0041`, 64)+`","digest":{"sha256":"`+figures(1)+`"}}`))
	noStatement(t, statement(`{"name":"`+strings.Repeat(`\u00e9`, 33)+`","digest":{"sha256":"`+figures(1)+`"}}`))
	for _, name := range []string{"1", "null", "true", `["a"]`, `{"a":"b"}`} {
		noStatement(t, statement(`{"name":`+name+`,"digest":{"sha256":"`+figures(1)+`"}}`))
	}
}

func TestSubjectDigests(t *testing.T) {
	with := func(digest string) string { return statement(`{"name":"a","digest":` + digest + `}`) }
	hash := func(s string) string { return with(`{"sha256":"` + s + `"}`) }
	f := figures(0xa5)
	isStatement(t, hash(f), hash(strings.Repeat("0", 64)), hash(strings.Repeat("f", 64)), hash(`\u0030`+strings.Repeat("0", 63)))
	noStatement(t,
		hash(""), hash(f[:63]), hash(f[:62]), hash(f+"0"), hash(f+"00"), hash(strings.ToUpper(f)), hash("A"+f[1:]), hash(f[:63]+"g"), hash(" "+f[1:]), hash(f+" "), hash("0x"+f[2:]), hash(f+f), hash("é"+f[2:]), hash("key:"+f),
		with(`"`+f+`"`), with("null"), with("[]"), with("{}"), with(`[{"sha256":"`+f+`"}]`), with(`{"sha256":null}`), with(`{"sha256":1}`), with(`{"sha256":["`+f+`"]}`), with(`{"sha512":"`+f+`"}`), with(`{"SHA256":"`+f+`"}`), with(`{"":"`+f+`"}`),
		with(`{"sha256":"`+f+`","sha512":"`+f+`"}`), with(`{"sha1":"","sha256":"`+f+`"}`), with(`{"sha256":"`+f+`","sha256":"`+f+`"}`), with(`{"sha256":{"sha256":"`+f+`"}}`),
	)
}

func TestSubjectNamesMissing(t *testing.T) {
	d, n := `"digest":{"sha256":"`+figures(1)+`"}`, `"name":"a"`
	isStatement(t, statement(braced(d, n)), statement(braced(n, d)))
	noStatement(t,
		statement(braced(d)), statement(braced(n)), statement(braced()), statement(braced(d, n, `"x":1`)), statement(braced(`"uri":"a"`, d, n)), statement(braced(d, n, n)), statement(braced(d, d, n)), statement(braced(d, d)), statement(braced(n, n)),
		statement(braced(d, `"Name":"a"`)), statement(braced(`"Digest":{"sha256":"`+figures(1)+`"}`, n)), statement(braced(d, n), braced(d)), statement(braced(d, `"":"a"`)),
	)
}

func TestStatementNames(t *testing.T) {
	s := about(subject("a", 1))
	all := []string{form, predicate, kind, s}
	isStatement(t, braced(all...), braced(s, kind, predicate, form), braced(kind, form, s, predicate), " \t\r\n{ "+strings.Join(all, " ,\n")+" } \n")
	for i := range all {
		without := slices.Delete(slices.Clone(all), i, i+1)
		twice := append(slices.Clone(all), all[i])
		noStatement(t, braced(without...), braced(twice...), braced(append(slices.Clone(without), `"x":1`)...), braced(append(slices.Clone(without), without[0])...), braced(append(slices.Clone(without), strings.Replace(all[i], `"`, `"x`, 1))...))
	}
	noStatement(t, braced(append(slices.Clone(all), `"x":1`)...), braced(append([]string{`"":null`}, all...)...), braced(append(slices.Clone(all), `"_Type":"https://in-toto.io/Statement/v1"`)...), braced())
}

func TestStatementForm(t *testing.T) {
	s := about(subject("a", 1))
	isStatement(t, braced(`"_type":"https:\/\/in-toto.io\/Statement\/v1"`, predicate, kind, s), braced(`"\u005ftype":"https://in-toto.io/Statement/v1"`, predicate, kind, s))
	for _, other := range []string{`""`, `"https://in-toto.io/Statement/v0.1"`, `"https://in-toto.io/Statement/v2"`, `"https://in-toto.io/Statement/v1/"`, `"https://in-toto.io/Statement/v1 "`, `" https://in-toto.io/Statement/v1"`, `"https://in-toto.io/statement/v1"`, `"http://in-toto.io/Statement/v1"`, `"https://in-toto.io/Statement/v"`, "null", "1", "true", `["https://in-toto.io/Statement/v1"]`, `{"https://in-toto.io/Statement/v1":1}`} {
		noStatement(t, braced(`"_type":`+other, predicate, kind, s))
	}
}

func TestPredicates(t *testing.T) {
	s := about(subject("a", 1))
	nested := func(n int) string { return strings.Repeat(`{"a":`, n) + "{}" + strings.Repeat("}", n) }
	for _, p := range []string{"{}", `{"a":1}`, `{"":null}`, `{"_type":1,"subject":[]}`, `{"a":[1,-2,"\u00e9",{"b":[]}]}`, nested(6)} {
		isStatement(t, braced(form, `"predicate":`+p, kind, s))
	}
	// Objects within one another are 8 at most, the statement itself among them.
	for _, p := range []string{"null", "[]", "[{}]", `""`, `"{}"`, "0", "1", "true", "false", nested(7), `{"a":1,"a":2}`, `{"a":1.0}`, `{"a":01}`, `{"a":"\ud800"}`, `{"a":9007199254740992}`, "{", ""} {
		noStatement(t, braced(form, `"predicate":`+p, kind, s))
	}
}

func TestPredicateTypes(t *testing.T) {
	s := about(subject("a", 1))
	typed := func(v string) string { return braced(form, predicate, `"predicateType":`+v, s) }
	isStatement(t, typed(`"p"`), typed(`"https://slsa.dev/provenance/v1"`), typed(`"cachet"`), typed(`"`+strings.Repeat("t", 64)+`"`), typed(`"\u0021"`), typed(`"\"\\"`), typed(`"~"`), typed(`"xcachet/"`))
	noStatement(t, typed(`""`), typed(`"`+strings.Repeat("t", 65)+`"`), typed(`" "`), typed(`"a b"`), typed(`"\u007f"`), typed(`"a\n"`), typed(`"é"`), typed(`"cachet/"`), typed(`"cachet/x"`), typed(`"cachet\/x"`), typed("null"), typed("1"), typed("true"), typed(`["p"]`), typed(`{"p":1}`), typed("{}"))
}

func TestStatementSizes(t *testing.T) {
	s := statement(subject("a", 1))
	isStatement(t, padded(s, 2047), padded(s, 2048), strings.Repeat("\n", 2048-len(s))+s)
	noStatement(t, padded(s, 2049), padded(s, 4096), padded(s, 4097), padded(s, 1<<20), strings.Repeat("\n", 2049-len(s))+s)
	long := strings.Replace(s, `{"x":[1]}`, `{"x":"`+strings.Repeat("a", 2048-len(s)+1)+`"}`, 1)
	if len(long) != 2048 {
		t.Fatal(len(long))
	}
	isStatement(t, long)
	noStatement(t, long+" ")
}

func TestNoStatements(t *testing.T) {
	s := statement(subject("a", 1))
	noStatement(t, "", " ", "null", "1", `"a"`, "[]", "{}", "["+s+"]", `{"a":`+s+"}", s+s, s+"x", "x"+s, s[1:], s[:len(s)-1], strings.Replace(s, ",", ",,", 1), strings.Replace(s, "}", ",}", 1), s+"\x00", "\ufeff"+s, strings.Replace(s, "a", "\xff", 1), strings.ReplaceAll(s, `"`, "'"), "\x00", strings.Repeat("[", 2048))
}

// TestSubjectsAlone: beside an error there are no subjects, not even those ahead of the fault.
func TestSubjectsAlone(t *testing.T) {
	one := subject("a", 1)
	for _, s := range []string{statement(one, one, "{}"), strings.Replace(statement(one), `"_type"`, `"x":1,"_type"`, 1), strings.Replace(statement(one), `{"x":[1]}`, "[]", 1), padded(statement(one), 2049)} {
		if got, err := Subjects([]byte(s)); err != api.ErrKind || len(got) > 0 {
			t.Errorf("%.200s: %v, %v", s, got, err)
		}
	}
}
