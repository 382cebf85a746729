package json

import (
	"fmt"
	"strings"
	"testing"
	"unicode/utf16"
	"unicode/utf8"
)

// P12.1: Parse, of texts in quotation marks. What is parsed is checked along with it (P12.2).

// isText asks that what stands in quotation marks is a text, as a value and as a name.
func isText(t *testing.T, inner, want string) {
	t.Helper()
	parsed(t, `"`+inner+`"`, txt(want))
	parsed(t, `["`+inner+`","x"]`, list(txt(want), txt("x")))
	parsed(t, `{"`+inner+`":0}`, object(with(want, num(0))))
}

// noText asks that it is none, with signs around it or without.
func noText(t *testing.T, inner string) {
	t.Helper()
	for _, text := range []string{inner, "x" + inner, inner + "x", "xy" + inner + "yz", inner + "é", "é" + inner} {
		refused(t, `"`+text+`"`, `["`+text+`"]`, `{"`+text+`":0}`, `{"a":"`+text+`"}`)
	}
}

func TestTexts(t *testing.T) {
	isText(t, "", "")
	isText(t, "a", "a")
	isText(t, " ", " ")
	isText(t, "null", "null")
	isText(t, "[1, {}]: /*'*/", "[1, {}]: /*'*/")
	isText(t, "é€\U0001f600", "é€\U0001f600")
	isText(t, "\u007f", "\u007f")
	isText(t, "\ufeff\u2028\u2029", "\ufeff\u2028\u2029")
	isText(t, "\ufffd\ufffe\uffff\U0010ffff", "\ufffd\ufffe\uffff\U0010ffff")
	isText(t, "á", "á")
	isText(t, "a\u0301", "a\u0301")
	refused(t, `"`, `"a`, `a"`, `"""`, `"a"b"`, `'a'`, "`a`", `"a\"`, `"\`, `"a\\\"`, `”a”`, `"a'`)
}

func TestEachBackslash(t *testing.T) {
	known := map[byte]string{'"': "\"", '\\': "\\", '/': "/", 'b': "\x08", 'f': "\x0c", 'n': "\x0a", 'r': "\x0d", 't': "\x09"}
	for c := range 256 {
		inner := `\` + string([]byte{byte(c)})
		if want, ok := known[byte(c)]; ok {
			isText(t, inner, want)
			isText(t, "x"+inner+"y"+inner, "x"+want+"y"+want)
			continue
		}
		if c == 'u' {
			isText(t, inner+"0041", "A")
		}
		noText(t, inner)
	}
	noText(t, `\U0041`)
	noText(t, `\x41`)
	noText(t, `\101`)
	noText(t, `\0`)
	noText(t, `\'`)
	noText(t, `\é`)
	isText(t, `\\u0041`, `\u0041`)
	isText(t, `\\\u0041`, `\A`)
	isText(t, `\\\\`, `\\`)
	isText(t, `\/\b\f\n\r\t\"\\`, "/\b\f\n\r\t\"\\")
}

func TestBelow20(t *testing.T) {
	for c := range 0x20 {
		noText(t, string(rune(c)))
		isText(t, fmt.Sprintf(`\u%04x`, c), string(rune(c)))
	}
	isText(t, "\x20\x21\x23\x5b\x5d\x7e\x7f", "\x20\x21\x23\x5b\x5d\x7e\x7f")
}

// TestEachSign has all signs of UTF-8 as they are.
func TestEachSign(t *testing.T) {
	var text strings.Builder
	for c := rune(0x20); c <= utf8.MaxRune; c++ {
		if utf8.ValidRune(c) && c != '"' && c != '\\' {
			text.WriteRune(c)
		}
		if text.Len() > 4000 || c == utf8.MaxRune {
			parsed(t, `"`+text.String()+`"`, txt(text.String()))
			text.Reset()
		}
	}
}

// TestEachFour has all signs of four figures, in either case.
func TestEachFour(t *testing.T) {
	for c := range 0x10000 {
		for _, form := range []string{`"\u%04x"`, `"\u%04X"`} {
			text := fmt.Sprintf(form, c)
			if c >= 0xd800 && c <= 0xdfff {
				refused(t, text)
			} else {
				parsed(t, text, txt(string(rune(c))))
			}
		}
	}
}

func TestFigures(t *testing.T) {
	isText(t, `\u00e9\u00E9\u20aC\uFfFd`, "éé€\ufffd")
	isText(t, `\u0000`, "\x00")
	isText(t, `\u00410`, "A0")
	isText(t, `\u0022\u005c`, `"\`)
	for _, few := range []string{`\u`, `\u0`, `\u00`, `\u004`} {
		noText(t, few+"x")
		refused(t, `"`+few+`"`, `"`+few, `{"`+few+`":1}`)
	}
	for _, wrong := range []string{`\u004g`, `\u00G1`, `\ug041`, `\u0 41`, `\u+041`, `\u-041`, `\u0x41`, `\u{41}`, `\u004 `, `\u00 1`, `\u 041`, `\u:041`, `\u@041`, "\\u`041", `\u/041`, `\u00４1`, `\u004é`, "\\u004\x00", "\\u004\xff", `\u004"`, `\u004\`} {
		noText(t, wrong)
	}
	for c := range 256 {
		for at := range 4 {
			figures := []byte("0041")
			figures[at] = byte(c)
			held(t, []byte(`"\u`+string(figures)+`"`))
		}
	}
}

func TestHalves(t *testing.T) {
	isText(t, `\ud83d\ude00`, "\U0001f600")
	isText(t, `\uD83D\uDE00`, "\U0001f600")
	isText(t, `\uD83d\udE00`, "\U0001f600")
	isText(t, `\ud800\udc00`, "\U00010000")
	isText(t, `\ud800\udfff`, "\U000103ff")
	isText(t, `\ud801\udc00`, "\U00010400")
	isText(t, `\udbff\udc00`, "\U0010fc00")
	isText(t, `\udbff\udfff`, "\U0010ffff")
	isText(t, `\ud83d\ude00\ud83d\ude01`, "\U0001f600\U0001f601")
	isText(t, `\ud7ff\ue000`, "\ud7ff\ue000")
	isText(t, `\\ud800`, `\ud800`)
	for _, half := range []string{`\ud800`, `\uDBFF`, `\ud83d`, `\udc00`, `\uDFFF`, `\ude00`} {
		noText(t, half)
		noText(t, half+`\n`)
		noText(t, half+`\u0041`)
		noText(t, half+`\\`)
		noText(t, half+half)
		noText(t, half+"\U0001f600")
		noText(t, half+`\ud83d\ude00`)
		noText(t, `\ud83d\ude00`+half)
		noText(t, half+`u`+half[2:])
	}
	for _, wrong := range []string{`\ude00\ud83d`, `\ud83d\ud83d\ude00`, `\ud83d\ude00\ude00`, `\ud83d\ud83d`, `\ude00\ude00`, `\ud83d\ud7ff`, `\ud83d\ue000`, `\ud83d\u`, `\ud83d\ude0`, `\ud83d\ude0g`, `\ud83d\Ude00`, `\ud83d\`, `\ud83d ude00`, `\ud83dude00`, `\ud83d \ude00`, `\ud83d\\ude00`, `\ud83d\xde00`, "\\ud83d\xed\xb8\x80", "\xed\xa0\xbd\\ude00", `\ud7ff\udc00`, `\ue000\udc00`} {
		noText(t, wrong)
	}
}

// TestEachTwoHalves has each first half with some second ones, and each second half with some first ones.
func TestEachTwoHalves(t *testing.T) {
	two := func(high, low rune) {
		parsed(t, fmt.Sprintf(`"\u%x\u%X"`, high, low), txt(string(utf16.DecodeRune(high, low))))
		refused(t, fmt.Sprintf(`"\u%x\u%x"`, low, high))
	}
	for i := range rune(0x400) {
		two(0xd800+i, 0xdc00)
		two(0xd800+i, 0xdfff-i)
		two(0xd800, 0xdc00+i)
		two(0xdbff, 0xdc00+i)
	}
}

func TestNotUTF8(t *testing.T) {
	for _, wrong := range []string{
		"\x80", "\xbf", "\xc3", "\xff", "\xfe", "\xf5", "\xf8\x88\x80\x80\x80", "\xfc\x84\x80\x80\x80\x80", // no beginning
		"\xe2\x82", "\xf0\x9f\x98", "\xe2", "\xf0", "\xf0\x9f", "\xc3\xc3", "\xe2\x82\xc3\xa9", // cut short
		"\xc0\x80", "\xc1\xbf", "\xc0\xaf", "\xc0\xa2", "\xe0\x80\x80", "\xe0\x9f\xbf", "\xf0\x80\x80\x80", "\xf0\x8f\xbf\xbf", // too long
		"\xed\xa0\x80", "\xed\xad\xbf", "\xed\xae\x80", "\xed\xaf\xbf", "\xed\xb0\x80", "\xed\xbf\xbf", "\xed\xa0\xbd\xed\xb8\x80", // halves
		"\xf4\x90\x80\x80", "\xf4\xbf\xbf\xbf", "\xf5\x80\x80\x80", "\xf7\xbf\xbf\xbf", // above
		"\xc3\xa9\xa9", "\xef\xbf\xbd\xbd",
	} {
		noText(t, wrong)
		refused(t, wrong, wrong+"1", "1"+wrong, "["+wrong+"]")
	}
	isText(t, "\xc2\x80\xdf\xbf\xe0\xa0\x80\xed\x9f\xbf\xee\x80\x80\xef\xbf\xbf\xf0\x90\x80\x80\xf4\x8f\xbf\xbf", "\u0080\u07ff\u0800\ud7ff\ue000\uffff\U00010000\U0010ffff")
}

// TestEachTwoBytes has each two bytes, and each two behind some beginnings of longer signs.
func TestEachTwoBytes(t *testing.T) {
	for _, ahead := range []string{"", "\xe0", "\xe2", "\xed", "\xf0\x90", "\xf4\x8f", "\xf4\x90"} {
		for a := range 256 {
			for b := range 256 {
				inner := ahead + string([]byte{byte(a), byte(b)})
				got, err := Parse([]byte(`"` + inner + `"`))
				want := utf8.ValidString(inner) && a >= 0x20 && b >= 0x20 && a != '"' && b != '"' && b != '\\' && a != '\\'
				if a == '\\' && ahead == "" {
					want = strings.Contains(`"\/bfnrt`, string(rune(b)))
				}
				if (err == nil) != want || want && a != '\\' && got.Text != inner {
					t.Fatalf("%q: %v, %v", inner, got, err)
				}
			}
		}
	}
}
