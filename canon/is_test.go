package canon

import (
	"strings"
	"testing"
)

// P13.1: Is. (So ask puts and refuses in all their tests, too.)

func isnt(t *testing.T, texts ...string) {
	t.Helper()
	for _, text := range texts {
		if Is([]byte(text)) {
			t.Errorf("%.100q is canonical", text)
		}
	}
}

func is(t *testing.T, texts ...string) {
	t.Helper()
	for _, text := range texts {
		if !Is([]byte(text)) {
			t.Errorf("%.100q isn't canonical", text)
		}
	}
}

func TestIsCanonical(t *testing.T) {
	is(t, "null", "true", "false", "0", "-1", "10", "9007199254740991", "-9007199254740991", `""`, `"a"`, "[]", "{}", "[[],{}]",
		`{"a":"A","b":1}`, `{"":0,"a":{"b":[],"c":{}},"b":null}`, `"\b\t\n\f\r\"\\/"`, `"\u0000\u001f"`, "\"\x7f\u2028é😀\"",
		`[3,1,2]`, `["b","a"]`, nestedText(8, 0, "1"), nestedText(8, -1, "1"), nestedText(8, 0x55, `"\n"`), `{"a":1,"aa":2,"b":3,"é":4}`)
}

func TestIsntWithBlanks(t *testing.T) {
	for _, text := range []string{"null", "1", `"a"`, "[]", `{"a":1}`} {
		for _, blank := range []string{" ", "\t", "\n", "\r"} {
			isnt(t, blank+text, text+blank, blank+text+blank)
		}
	}
	isnt(t, "[ ]", "{ }", "[1, 2]", "[1 ,2]", "[ 1,2]", "[1,2 ]", `{"a": 1}`, `{"a" :1}`, `{ "a":1}`, `{"a":1 }`, `{"a":1, "b":2}`, `{"a":[1, 2]}`, "[[\n]]")
	is(t, `" "`, `{"a ":" "}`)
}

func TestIsntInAnotherOrder(t *testing.T) {
	isnt(t, `{"b":1,"a":2}`, `[{"b":1,"a":2}]`, `{"a":{"b":1,"a":2}}`, `{"a":1,"c":2,"b":3}`, `{"aa":1,"a":2}`, `{"é":1,"z":2}`, `{"a":1,"":2}`, `{"2":1,"10":2}`, "{\"\U00010000\":1,\"\uffff\":2}")
	is(t, `{"a":1,"b":2}`, `[{"a":1,"b":2}]`, `{"a":1,"aa":2}`, `{"z":1,"é":2}`, `{"10":1,"2":2}`, "{\"\uffff\":1,\"\U00010000\":2}")
	// By the bytes of the names, not of how they are written: the quotation mark is ahead of A, the backslash behind it.
	is(t, `{"\"":1,"A":2}`, `{"A":1,"\\":2}`, `{"\n":1,"A":2}`, `{"\u0000":1,"\b":2}`)
	isnt(t, `{"A":1,"\"":2}`, `{"\\":1,"A":2}`, `{"A":1,"\n":2}`)
}

func TestIsntWrittenOtherwise(t *testing.T) {
	isnt(t, `"\u0041"`, `"\/"`, `"\u002f"`, `"\u001F"`, `"\u000B"`, `"\u0008"`, `"\u0009"`, `"\u000a"`, `"\u000A"`, `"\u000c"`, `"\u000d"`, `"\u0022"`, `"\u005c"`, `"\u005C"`, `"\u007f"`, `"\u00e9"`, `"\u2028"`, `"\ud83d\ude00"`)
	isnt(t, `{"\u0041":1}`, `{"\/":1}`, `["\u001F"]`, `{"a":"\u001F"}`)
	is(t, `"A"`, `"/"`, `"\u001f"`, `"\u000b"`, `"\\u0041"`)
}

func TestIsntAText(t *testing.T) {
	isnt(t, "", " ", `{"a":1,"a":1}`, `{"a":1,"a":2}`, `{"a":{"b":1,"b":1}}`, "nul", "nulll", "True", "01", "-0", "-", "+1", "1.0", "1e2", "9007199254740992", "-9007199254740992", "[1,]", "[,1]", "[1", "1]", "{", "}", `{"a"}`, `{"a":}`, `{a:1}`, `{1:1}`, `"a`, `a"`, "'a'", "\"\n\"", "\"\x00\"", `"\x"`, `"\ud800"`, `"\udc00"`, "\"\xff\"", "\"\xed\xa0\x80\"", "\xff", "\x00", "1 2", "[1 2]", "null,null", nestedText(9, 0, "1"), nestedText(9, -1, "1"), nestedText(8, 0, "[]"))
	if Is(nil) || Is([]byte{}) {
		t.Error("the empty text")
	}
}

func TestIsSize(t *testing.T) {
	a := func(n int) string { return `"` + strings.Repeat("a", n-2) + `"` }
	is(t, a(4095), a(4096), "["+a(4094)+"]", "["+strings.Repeat("0,", 2046)+"10]")
	isnt(t, a(4097), a(4098), "["+a(4095)+"]", "["+strings.Repeat("0,", 2046)+"100]", " "+a(4095), " "+a(4096), a(1<<20), strings.Repeat("[", 1<<20))
}
