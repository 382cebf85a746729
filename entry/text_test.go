package entry

import (
	"bytes"
	"encoding/base64"
	"strings"
	"testing"

	"cachet/api"
	"cachet/canon"
	"cachet/json"
)

// P15.1: Put and Parse; P15.2.

// TestTexts has texts written out, so that not all tests lean on what is reckoned here.
func TestTexts(t *testing.T) {
	nought := strings.Repeat("A", 86) + "=="
	zero := strings.Repeat("0", 64)
	payload := `{"_type":"https://in-toto.io/Statement/v1","predicate":{},"predicateType":"p","subject":[{"digest":{"sha256":"` + zero + `"},"name":"a"}]}`
	for i, c := range []struct {
		e    api.Entry
		text string
	}{
		{api.Entry{Kind: 1, Digest: api.Sum{0: 0xab, 31: 1}, Sigs: []api.Sig{{Identity: "alice", Sig: api.Wide{1}}, {Key: api.Key{2}}}}, `{"digest":"ab` + zero[4:] + `01","kind":"artifact","sigs":[{"by":"alice","sig":"AQ` + nought[2:] + `"},{"by":"key:02` + zero[2:] + `","sig":"` + nought + `"}]}`},
		{api.Entry{Kind: 2, Type: "text/plain", Payload: []byte("hello"), Sigs: []api.Sig{{Identity: "a"}}}, `{"kind":"envelope","payload":"aGVsbG8=","sigs":[{"by":"a","sig":"` + nought + `"}],"type":"text/plain"}`},
		{api.Entry{Kind: 2, Type: `"\/<`, Sigs: []api.Sig{{Identity: "a"}}}, `{"kind":"envelope","payload":"","sigs":[{"by":"a","sig":"` + nought + `"}],"type":"\"\\/<"}`},
		{api.Entry{Kind: 3, Payload: []byte(payload), Sigs: []api.Sig{{}}}, `{"kind":"statement","payload":"` + base64.StdEncoding.EncodeToString([]byte(payload)) + `","sigs":[{"by":"key:` + zero + `","sig":"` + nought + `"}]}`},
		{api.Entry{Kind: 4, Op: 1, Identity: "bob", Key: api.Key{4}, Sigs: []api.Sig{{Identity: "bob"}}}, `{"identity":"bob","key":"04` + zero[2:] + `","kind":"binding","op":"bind","sigs":[{"by":"bob","sig":"` + nought + `"}]}`},
		{api.Entry{Kind: 4, Op: 2, Identity: "bob", Sigs: []api.Sig{{Identity: "bob"}}}, `{"identity":"bob","key":"` + zero + `","kind":"binding","op":"rotate","sigs":[{"by":"bob","sig":"` + nought + `"}]}`},
		{api.Entry{Kind: 4, Op: 3, Identity: "bob", Sigs: []api.Sig{{Identity: "bob"}}}, `{"identity":"bob","kind":"binding","op":"revoke","sigs":[{"by":"bob","sig":"` + nought + `"}]}`},
	} {
		if b, err := Put(c.e); err != nil || string(b) != c.text {
			t.Errorf("%d: %s, %v", i, b, err)
		}
		if e, err := Parse([]byte(c.text)); err != nil || !sameEntry(e, c.e) {
			t.Errorf("%d: %v, %v", i, e, err)
		}
	}
}

// TestPutIsParsed: what is put is canonical, and parsed to the same entry; its value is that of the entry.
func TestPutIsParsed(t *testing.T) {
	for i, e := range entries() {
		b, err := Put(e)
		if err != nil || !canon.Is(b) {
			t.Fatal(i, err, string(b))
		}
		if back, err := Parse(b); err != nil || !sameEntry(back, e) || !Equal(back, e) {
			t.Errorf("%d: %v, %v", i, back, err)
		}
		if v, err := json.Parse(b); err != nil || !json.Equal(v, valueOf(t, e)) {
			t.Errorf("%d: %v, %v", i, v, err)
		}
		holdsText(t, b)
	}
}

// TestParseOtherTexts: texts that aren't canonical are parsed to the entry, too, and put to its text.
func TestParseOtherTexts(t *testing.T) {
	for i, e := range entries() {
		b, _ := Put(e)
		if len(b) > 2000 {
			continue
		}
		text := string(b)
		for _, other := range []string{
			" " + text + "\n", strings.ReplaceAll(text, ",", " ,\n"), strings.ReplaceAll(text, `":`, "\"\t: "), strings.ReplaceAll(text, "{", "{ "), strings.ReplaceAll(text, "]", "\r\n]"),
			strings.ReplaceAll(text, "/", `\/`), strings.ReplaceAll(text, `"kind"`, `"\u006bind"`), strings.ReplaceAll(text, "=", `\u003d`), strings.ReplaceAll(text, "+", `\u002B`),
			`{"kind"` + strings.SplitN(text, `"kind"`, 2)[1][:len(strings.SplitN(text, `"kind"`, 2)[1])-1] + strings.TrimSuffix(","+strings.SplitN(text, `"kind"`, 2)[0][1:], ",") + "}",
		} {
			got, err := Parse([]byte(other))
			if err != nil || !sameEntry(got, e) {
				t.Errorf("%d: %s: %v, %v", i, other, got, err)
			}
			if again, err := Put(got); err != nil || !bytes.Equal(again, b) {
				t.Errorf("%d: %s: %s, %v", i, other, again, err)
			}
			holdsText(t, []byte(other))
		}
	}
}

// sized is an envelope whose text has so many bytes.
func sized(size int) api.Entry {
	e := api.Entry{Kind: api.Envelope, Type: "t"}
	for i := range 8 {
		e.Sigs = append(e.Sigs, byKey(i))
	}
	// The payload's signs go by fours; the rest hangs on the type.
	e.Payload = row(size, (size-len(plainText(e)))/4*3)
	e.Type += strings.Repeat("t", size-len(plainText(e)))
	return e
}

func TestPutSizes(t *testing.T) {
	for size := 4080; size <= 4170; size++ {
		e := sized(size)
		want := plainText(e)
		if len(want) != size || !plainEntry(e) {
			t.Fatal(len(want), size)
		}
		b, err := Put(e)
		if size > 4096 {
			if err != api.ErrSize || len(b) > 0 {
				t.Errorf("%d bytes: %d, %v", size, len(b), err)
			}
			noText(t, api.ErrSize, want)
			continue
		}
		if err != nil || string(b) != want {
			t.Errorf("%d bytes: %d, %v", size, len(b), err)
		}
		if back, err := Parse(b); err != nil || !sameEntry(back, e) {
			t.Errorf("%d bytes: %v", size, err)
		}
	}
}

// TestKindAheadOfSize: what is too long and no entry is no entry.
func TestKindAheadOfSize(t *testing.T) {
	e := sized(4097)
	if b, err := Put(e); err != api.ErrSize || len(b) > 0 {
		t.Error(len(b), err)
	}
	e.Digest[0] = 1
	f := sized(4170)
	f.Type = strings.Repeat("t", 65)
	g := sized(4170)
	g.Sigs = append(g.Sigs, byKey(9))
	isNone(t, e, f, g, envelope("x", make([]byte, 5000)))
}

// TestStatementTooLong: a statement may be too long, too.
func TestStatementTooLong(t *testing.T) {
	e := api.Entry{Kind: api.Statement, Payload: []byte(padded(statement(subject("a", 1)), 2048))}
	for i := range 8 {
		e.Sigs = append(e.Sigs, byKey(i))
	}
	if err := Check(e); err != nil {
		t.Error(err)
	}
	if b, err := Put(e); err != api.ErrSize || len(b) > 0 {
		t.Error(len(b), err)
	}
	isOne(t, e)
}

func TestParseSizes(t *testing.T) {
	for _, e := range entries() {
		b, _ := Put(e)
		for _, n := range []int{4095, 4096} {
			if back, err := Parse([]byte(padded(string(b), n))); err != nil || !sameEntry(back, e) {
				t.Errorf("%d bytes: %v, %v", n, back, err)
			}
		}
		noText(t, api.ErrSize, padded(string(b), 4097), strings.Repeat("\n", 4097-len(b))+string(b), padded(string(b), 1<<20))
	}
	noText(t, api.ErrSize, strings.Repeat("x", 4097), strings.Repeat("{", 5000), string(make([]byte, 4097)))
	noText(t, api.ErrForm, strings.Repeat("x", 4096), string(make([]byte, 4096)), strings.Repeat(" ", 4096))
}

// TestParseForm: layer 12's errors come first, where the text would be no entry's either.
func TestParseForm(t *testing.T) {
	b, _ := Put(entries()[0])
	text := string(b)
	noText(t, api.ErrForm,
		"", " ", "{", "}", "x", "nul", "[01]", "[1.0]", "[1,]", `{"a":1,"a":2}`, `"\ud800"`, "\xff", "9007199254740992", strings.Repeat("[", 9)+strings.Repeat("]", 9),
		text[1:], text[:len(text)-1], text+text, text+"}", text+"x", "\ufeff"+text, strings.Replace(text, ",", ",,", 1), strings.Replace(text, "}", ",}", 1), strings.Replace(text, "alice", "\xff", 1), strings.Replace(text, "alice", `\x`, 1), strings.Replace(text, "alice", "a\n", 1), strings.Replace(text, `"kind"`, "kind", 1), strings.ReplaceAll(text, `"`, "'"),
		strings.Replace(text, `"kind":"artifact"`, `"kind":"artifact","kind":"artifact"`, 1), strings.Replace(text, `"by"`, `"by":"alice","by"`, 1), strings.Replace(text, "{", `{"a":1,"a":2,`, 1), strings.Replace(text, `"artifact"`, "1.5", 1),
		strings.Replace(text, `"artifact"`, strings.Repeat("[", 8)+strings.Repeat("]", 8), 1),
	)
}

func TestParseKind(t *testing.T) {
	b, _ := Put(entries()[0])
	text := string(b)
	noText(t, api.ErrKind,
		"null", "true", "1", `""`, `"artifact"`, "[]", "{}", "[{}]", strings.Repeat("[", 8)+strings.Repeat("]", 8), `{"kind":"artifact"}`, `{"a":1}`, "["+text+"]", `{"a":`+text+"}",
		strings.Replace(text, "{", `{"a":1,`, 1), strings.Replace(text, "{", `{"type":"x",`, 1), strings.Replace(text, `"kind"`, `"Kind"`, 1), strings.Replace(text, "artifact", "envelope", 1), strings.Replace(text, "artifact", "Artifact", 1), strings.Replace(text, "artifact", "", 1), strings.Replace(text, `"artifact"`, "1", 1), strings.Replace(text, "alice", "Alice", 1), strings.Replace(text, "alice", "", 1), strings.Replace(text, "alice", "zoe", 1), strings.Replace(text, "key:", "key", 1), strings.Replace(text, `"alice"`, "null", 1), strings.Replace(text, "=", "", 1), strings.Replace(text, `"by"`, `"of"`, 1), strings.Replace(text, `"by"`, `"x":1,"by"`, 1),
		strings.Replace(text, `"artifact"`, strings.Repeat("[", 7)+strings.Repeat("]", 7), 1),
	)
}
