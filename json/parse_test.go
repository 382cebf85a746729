package json

import (
	"reflect"
	"strconv"
	"strings"
	"testing"

	"cachet/api"
)

// P12.1: Parse, of all but texts in quotation marks. What is parsed is checked along with it (P12.2).

func TestExamples(t *testing.T) {
	parsed(t, `{"a": [1, -2, "\u00e9"]}`, object(with("a", list(num(1), num(-2), txt("é")))))
	refused(t, "[01]", "[1.0]", "[1,]", `{"a":1,"a":2}`, `"\ud800"`)
}

func TestOrdinary(t *testing.T) {
	parsed(t, `{"kind":"artifact","digest":"00ff","sigs":[{"identity":"alice","n":7},null,true,false],"more":{}}`,
		object(
			with("kind", txt("artifact")),
			with("digest", txt("00ff")),
			with("sigs", list(object(with("identity", txt("alice")), with("n", num(7))), api.Value{}, flag(1), flag(0))),
			with("more", object()),
		))
}

func TestSize(t *testing.T) {
	parsed(t, `"`+strings.Repeat("a", 4094)+`"`, txt(strings.Repeat("a", 4094)))
	parsed(t, strings.Repeat(" ", 4092)+"null", api.Value{})
	parsed(t, "1"+strings.Repeat("\n", 4095), num(1))
	parsed(t, "["+strings.Repeat("0,", 2046)+"0 ]", list(noughts(2047)...))
	refused(t, strings.Repeat(" ", 4096), strings.Repeat("\x00", 4096), strings.Repeat("[", 4096), strings.Repeat("9", 4096), `"`+strings.Repeat("a", 4095), strings.Repeat("\xff", 4096))
	for _, n := range []int{4097, 4098, 8192, 1 << 16, 1 << 20} {
		for _, text := range []string{
			`"` + strings.Repeat("a", n-2) + `"`,
			"null" + strings.Repeat(" ", n-4),
			strings.Repeat(" ", n-1) + "1",
			strings.Repeat(" ", n),
			strings.Repeat("\x00", n),
			strings.Repeat("\xff", n),
			strings.Repeat("[", n),
			"[" + strings.Repeat("0", n-2) + "]",
		} {
			if v, err := Parse([]byte(text)); len(text) != n || err != api.ErrSize || !reflect.DeepEqual(v, api.Value{}) {
				t.Errorf("%d bytes, %.10q: %v, %v", len(text), text, v, err)
			}
		}
	}
}

func noughts(n int) []api.Value {
	out := make([]api.Value, n)
	for i := range out {
		out[i] = num(0)
	}
	return out
}

func TestNothing(t *testing.T) {
	if v, err := Parse(nil); err != api.ErrForm || !reflect.DeepEqual(v, api.Value{}) {
		t.Error(v, err)
	}
	refused(t, "", " ", "\t", "\n", "\r", " \t\n\r", strings.Repeat("\r\n", 100))
}

// tokens are the signs of a text between which blanks may stand, and tokenValue what it is.
var tokens = [...]string{"{", `"a"`, ":", "[", "1", ",", "-20", ",", "null", ",", "[", "]", ",", "{", "}", "]", ",", `"b"`, ":", "true", ",", `" "`, ":", "false", ",", `""`, ":", `"x y"`, "}"}

func tokenValue() api.Value {
	return object(
		with("a", list(num(1), num(-20), api.Value{}, list(), object())),
		with("b", flag(1)),
		with(" ", flag(0)),
		with("", txt("x y")),
	)
}

func TestBlanks(t *testing.T) {
	for _, blank := range []string{"", " ", "\t", "\n", "\r", "\r\n", " \t\n\r", "\n \r\t  "} {
		parsed(t, blank+strings.Join(tokens[:], blank)+blank, tokenValue())
		for at := range len(tokens) + 1 {
			text := strings.Join(tokens[:at], "") + blank + strings.Join(tokens[at:], "")
			parsed(t, text, tokenValue())
		}
		for _, word := range []string{"null", "true", "false", "0", "-1", `"a"`, "[]", "{}"} {
			want, ok := plainParse([]byte(word))
			if !ok {
				t.Fatal(word)
			}
			parsed(t, blank+word, want)
			parsed(t, word+blank, want)
			parsed(t, blank+word+blank, want)
		}
	}
}

func TestOtherBlanks(t *testing.T) {
	for _, blank := range []string{"\v", "\f", "\x00", "\x08", "\x1c", "\x1f", "\x7f", "\x85", "\xa0", "\u0085", "\u00a0", "\u2003", "\u2028", "\u3000", "\ufeff", "/**/", "//\n", "#"} {
		for at := range len(tokens) + 1 {
			refused(t, strings.Join(tokens[:at], "")+blank+strings.Join(tokens[at:], ""))
		}
		refused(t, blank, blank+"1", "1"+blank, " "+blank+"1", "1 "+blank)
	}
}

// TestBlanksWithin has blanks where two signs may not stand apart.
func TestBlanksWithin(t *testing.T) {
	for _, blank := range []string{" ", "\t", "\n", "\r"} {
		for _, word := range []string{"null", "true", "false", "12", "-1", "-12", "9007199254740991", `"\n"`, `"\u0041"`, `"\ud83d\ude00"`} {
			inner := strings.Trim(word, `"`)
			for at := 1; at < len(inner); at++ {
				text := strings.Replace(word, inner, inner[:at]+blank+inner[at:], 1)
				refused(t, text, "["+text+"]")
			}
		}
	}
	parsed(t, `" "`, txt(" "))
	parsed(t, `"  a  b  "`, txt("  a  b  "))
	refused(t, "\"a\tb\"", "\"a\nb\"", "\"a\rb\"", "\"\t\"", "\"a\r\n\"")
}

func TestWords(t *testing.T) {
	parsed(t, "null", api.Value{})
	parsed(t, "true", flag(1))
	parsed(t, "false", flag(0))
	for _, word := range []string{"null", "true", "false"} {
		for at := range word {
			refused(t, word[:at], "[0,"+word[:at]+"]", word[at+1:], word[:at]+strings.ToUpper(word[at:at+1])+word[at+1:])
		}
		for _, more := range []string{"e", "l", "0", word, `"`, ",", "]", "}", ":", "\x00", "\\", "."} {
			refused(t, word+more, word+" "+more, more+word)
		}
		refused(t, strings.ToUpper(word), strings.ToUpper(word[:1])+word[1:], "'"+word+"'")
	}
	refused(t, "nul l", "undefined", "NaN", "Infinity", "-Infinity", "nan", "inf", "yes", "no", "n", "t", "f", "nil", "none")
}

func TestNumbers(t *testing.T) {
	const most = 1<<53 - 1
	for _, n := range []int{0, 1, 2, 9, 10, 11, 99, 100, 101, 1000000, 1 << 31, 1 << 32, 1<<52 + 1, most / 2, most - 1, most} {
		parsed(t, strconv.Itoa(n), num(n))
		parsed(t, "["+strconv.Itoa(n)+"]", list(num(n)))
		refused(t, "0"+strconv.Itoa(n), "+"+strconv.Itoa(n), "--"+strconv.Itoa(n), strconv.Itoa(n)+"-", strconv.Itoa(n)+".", strconv.Itoa(n)+".0", strconv.Itoa(n)+"e0", strconv.Itoa(n)+"_0")
		if n > 0 {
			parsed(t, strconv.Itoa(-n), num(-n))
			refused(t, "-0"+strconv.Itoa(n), "-+"+strconv.Itoa(n), "- "+strconv.Itoa(n), strconv.Itoa(-n)+".5")
		}
	}
	for _, n := range []string{"9007199254740992", "9007199254740993", "9007199254741000", "9223372036854775807", "9223372036854775808", "18446744073709551615", "18446744073709551616", "18446744073709551617", "90071992547409910", "10000000000000000"} {
		refused(t, n, "-"+n, "["+n+"]", `{"a":-`+n+`}`)
	}
	refused(t, "-0", "00", "-00", "01", "-01", "-", "+", "+1", "+0", "1.0", "1.5", "-1.5", ".5", "0.", "0.0", "1e1", "1E1", "1e+1", "1e-1", "0e0", "1e", "0x1", "0b1", "0o1", "1_0", "1a", "a1", "1,000", "1 0", "1-1", "1+1", "--1", "٣", "１", "½", "1\x00", "\x001")
}

func TestManyFigures(t *testing.T) {
	for _, n := range []int{17, 18, 19, 20, 21, 40, 100, 1000, 4095} {
		for _, figure := range []string{"0", "1", "9"} {
			many := strings.Repeat(figure, n)
			refused(t, many, "-"+many)
		}
		refused(t, "1"+strings.Repeat("0", n), strings.Repeat("0", n-1)+"1")
	}
	// Numbers that wrap around to small ones.
	refused(t, "18446744073709551616", "-18446744073709551616", "36893488147419103233", "340282366920938463463374607431768211456", "340282366920938463463374607431768211457")
}

func TestLists(t *testing.T) {
	parsed(t, "[]", list())
	parsed(t, "[ ]", list())
	parsed(t, "[1]", list(num(1)))
	parsed(t, "[null]", list(api.Value{}))
	parsed(t, "[[],[]]", list(list(), list()))
	parsed(t, "[1,1,1]", list(num(1), num(1), num(1)))
	parsed(t, `["b","a",2,1,{"a":[]},[null,[true]]]`, list(txt("b"), txt("a"), num(2), num(1), object(with("a", list())), list(api.Value{}, list(flag(1)))))
	refused(t, "[", "]", "[,]", "[,1]", "[1,]", "[1,,1]", "[1,2,]", "[1", "[1,", "[1,2", "[1 2]", "[1;2]", "[1:2]", "[1}", "{1]", "[1]]", "[[1]", "[\"a\":1]", "[1,2", "(1)", "[", "[[", "[]]", "[] []", "[],", ",[]", "[-]", "[nul]", `["a]`)
}

func TestObjects(t *testing.T) {
	parsed(t, "{}", object())
	parsed(t, "{ }", object())
	parsed(t, `{"":""}`, object(with("", txt(""))))
	parsed(t, `{"b":1,"a":2,"c":3}`, object(with("b", num(1)), with("a", num(2)), with("c", num(3))))
	parsed(t, `{"a":{"a":{"a":1}},"b":{"a":1}}`, object(with("a", object(with("a", object(with("a", num(1)))))), with("b", object(with("a", num(1))))))
	parsed(t, `{"a":1,"A":1,"a ":1,"aa":1,"á":1,"a\u0301":1}`, object(with("a", num(1)), with("A", num(1)), with("a ", num(1)), with("aa", num(1)), with("á", num(1)), with("a\u0301", num(1))))
	parsed(t, `{"\u0061\n\"\\":1}`, object(with("a\n\"\\", num(1))))
	refused(t, "{", "}", "{,}", `{"a"}`, `{"a":}`, `{"a" 1}`, `{"a",1}`, `{"a"=1}`, `{"a"::1}`, `{"a":1,}`, `{,"a":1}`, `{"a":1,,"b":1}`, `{"a":1 "b":1}`, `{"a":1;"b":1}`, `{"a":1:"b":1}`, `{"a":1`, `{"a":1,`, `{"a":1,"b`, `{"a":1,"b"`, `{"a":1,"b":`, `{"a":1]`, `{"a":1}}`, `{{"a":1}`, `{:1}`, `{"a":1 2}`)
	for _, name := range []string{"a", "1", "null", "true", "[]", "{}", `["a"]`, "'a'", `"a`, `a"`, `"a""b"`, `"\x"`, "\"\xff\"", "\"\n\"", `"\ud800"`, "-1", ""} {
		refused(t, "{"+name+":1}", `{"z":0,`+name+":1}")
	}
}

func TestNameTwice(t *testing.T) {
	refused(t, `{"a":1,"a":1}`, `{"a":1,"a":2}`, `{"a":1,"b":2,"a":3}`, `{"a":1,"\u0061":2}`, `{"\u0061":1,"a":2}`, `{"\u0061":1,"\u0061":2}`,
		`{"":1,"":1}`, `{"é":1,"\u00e9":1}`, `{"é":1,"\u00E9":1}`, `{"😀":1,"\ud83d\ude00":2}`, `{"/":1,"\/":2}`, `{"\n":1,"\u000a":2}`, `{"\"":1,"\u0022":2}`,
		`[{"a":1,"a":1}]`, `{"b":{"a":1,"a":1}}`, `{"b":[{"c":0,"a":1,"a":1}],"d":0}`, `{"a":null,"a":null}`, `{"a":{},"a":{}}`)
	parsed(t, `[{"a":1},{"a":2}]`, list(object(with("a", num(1))), object(with("a", num(2)))))
	var many []string
	var want []api.Pair
	for i := range 300 {
		many = append(many, `"n`+strconv.Itoa(i)+`":0`)
		want = append(want, with("n"+strconv.Itoa(i), num(0)))
	}
	parsed(t, "{"+strings.Join(many, ",")+"}", object(want...))
	for _, again := range []int{0, 1, 150, 299} {
		refused(t, "{"+strings.Join(many, ",")+","+many[again]+"}")
	}
}

// TestDepth asks all ways to nest lists and objects.
func TestDepth(t *testing.T) {
	for n := range 9 {
		for objects := range 1 << n {
			parsed(t, nestedText(n, objects, "1"), nested(n, objects, num(1)))
		}
	}
	for objects := range 1 << 9 {
		refused(t, nestedText(9, objects, "1"))
	}
	for objects := range 1 << 8 {
		refused(t, nestedText(8, objects, "[]"), nestedText(8, objects, "{}"))
		parsed(t, nestedText(7, objects, "[]"), nested(7, objects, list()))
		parsed(t, nestedText(7, objects, "{}"), nested(7, objects, object()))
	}
	for _, n := range []int{10, 11, 16, 17, 100, 600} {
		for _, objects := range []int{0, -1, 0x5555555555555555} {
			refused(t, nestedText(n, objects, "1"), nestedText(n, objects, ""))
		}
	}
	refused(t, strings.Repeat("[", 4096), strings.Repeat(`{"a":`, 800), strings.Repeat("[", 2048)+strings.Repeat("]", 2048))
}

// TestDepthIsTakenBack has many that are nested one behind the other.
func TestDepthIsTakenBack(t *testing.T) {
	var texts []string
	var want []api.Value
	for objects := range 100 {
		texts = append(texts, nestedText(7, objects, "1"))
		want = append(want, nested(7, objects, num(1)))
	}
	parsed(t, "["+strings.Join(texts, ",")+"]", list(want...))
	refused(t, "["+strings.Join(append(texts, nestedText(8, 0, "1")), ",")+"]")
	refused(t, "["+nestedText(8, 3, "1")+","+texts[0]+"]")
	parsed(t, "["+strings.Repeat("[],{},", 500)+"[[]]]", list(append(emptyPairs(500), list(list()))...))
}

// emptyPairs is n times an empty list and an empty object.
func emptyPairs(n int) []api.Value {
	var out []api.Value
	for range n {
		out = append(out, list(), object())
	}
	return out
}

func TestBehind(t *testing.T) {
	for _, text := range []string{"null", "1", `"a"`, "[1]", `{"a":1}`} {
		for _, more := range []string{"1", "null", `"a"`, "[]", "{}", ",", "]", "}", ":", "\"", "\\", "\x00", "\xff", "é", "/", "-", "x"} {
			refused(t, text+" "+more, text+"\n"+more+"\n")
			if text != "1" || more != "1" {
				refused(t, text+more)
			}
		}
	}
}

// TestEachByte has each byte alone, ahead of a value and behind it.
func TestEachByte(t *testing.T) {
	for c := range 256 {
		b := string([]byte{byte(c)})
		held(t, []byte(b))
		for _, text := range []string{"null", "1", `"a"`, "[1]", `{"a":1}`} {
			held(t, []byte(b+text))
			held(t, []byte(text+b))
			for at := range text {
				held(t, []byte(text[:at]+b+text[at:]))
				held(t, []byte(text[:at]+b+text[at+1:]))
			}
		}
	}
}

// TestCutShort has every beginning and every end of a text.
func TestCutShort(t *testing.T) {
	text := strings.Join(tokens[:], " ") + "\n"
	for at := 1; at < len(text)-1; at++ {
		refused(t, text[:at], text[at:])
		refused(t, text[:at]+text[at+1:]+"]")
	}
}
