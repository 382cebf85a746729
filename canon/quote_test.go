package canon

import (
	"fmt"
	"math/rand"
	"strings"
	"testing"
)

// P13.1: Quote.

func TestQuoteBelow20(t *testing.T) {
	want := [0x20]string{
		`\u0000`, `\u0001`, `\u0002`, `\u0003`, `\u0004`, `\u0005`, `\u0006`, `\u0007`,
		`\b`, `\t`, `\n`, `\u000b`, `\f`, `\r`, `\u000e`, `\u000f`,
		`\u0010`, `\u0011`, `\u0012`, `\u0013`, `\u0014`, `\u0015`, `\u0016`, `\u0017`,
		`\u0018`, `\u0019`, `\u001a`, `\u001b`, `\u001c`, `\u001d`, `\u001e`, `\u001f`,
	}
	for c := range 0x20 {
		s := string(rune(c))
		if got := Quote(s); got != `"`+want[c]+`"` {
			t.Errorf("%x: %s", c, got)
		}
		if got := Quote("a" + s + s + "é"); got != `"a`+want[c]+want[c]+`é"` {
			t.Errorf("%x: %s", c, got)
		}
		puts(t, txt(s), `"`+want[c]+`"`)
		puts(t, object(with(s, txt(s))), `{"`+want[c]+`":"`+want[c]+`"}`)
	}
}

func TestQuoteMarks(t *testing.T) {
	for s, want := range map[string]string{
		"":                     `""`,
		`"`:                    `"\""`,
		`\`:                    `"\\"`,
		`\"`:                   `"\\\""`,
		`\n`:                   `"\\n"`,
		`\u0041`:               `"\\u0041"`,
		`a"b\c`:                `"a\"b\\c"`,
		"/":                    `"/"`,
		"</a>&'":               `"</a>&'"`,
		" ":                    `" "`,
		"\x7f":                 "\"\x7f\"",
		"\u0080":               "\"\u0080\"",
		"é":                    `"é"`,
		"\u07ff":               "\"\u07ff\"",
		"\u0800":               "\"\u0800\"",
		"\u2028":               "\"\u2028\"",
		"\u2029":               "\"\u2029\"",
		"\ufeff":               "\"\ufeff\"",
		"\ufffd":               "\"\ufffd\"",
		"\uffff":               "\"\uffff\"",
		"\ue000":               "\"\ue000\"",
		"😀":                    `"😀"`,
		"\U000fffff\U0010ffff": "\"\U000fffff\U0010ffff\"",
		"a\u0301":              "\"a\u0301\"",
	} {
		if got := Quote(s); got != want {
			t.Errorf("%q: %s", s, got)
		}
		puts(t, txt(s), want)
		puts(t, object(with(s, num(1))), "{"+want+":1}")
	}
}

// TestQuoteWrongBytes has bytes that are no sign of UTF-8: they are as they are.
func TestQuoteWrongBytes(t *testing.T) {
	for _, s := range []string{"\xff", "\x80", "\xc3", "a\xc3", "\xc3a", "\xe2\x82", "\xf0\x9f\x98", "\xc0\x80", "\xe0\x80\x80", "\xed\xa0\x80", "\xed\xbf\xbf", "\xf4\x90\x80\x80", "\xf8\x88\x80\x80\x80", "é\xff\xfe"} {
		if got := Quote(s); got != `"`+s+`"` {
			t.Errorf("%q: %q", s, got)
		}
		if got := Quote("\n" + s + "\""); got != `"\n`+s+`\""` {
			t.Errorf("%q: %q", s, got)
		}
	}
	for c := 0x80; c < 0x100; c++ {
		s := string([]byte{byte(c)})
		if got := Quote(s + "\n" + s); got != `"`+s+`\n`+s+`"` {
			t.Errorf("%x: %q", c, got)
		}
	}
}

// plainQuote has the form of each byte by the words of the chapter.
func plainQuote(s string) string {
	out := ""
	for i := range len(s) {
		c := s[i]
		short := strings.IndexByte("\"\\\b\t\n\f\r", c)
		switch {
		case short >= 0:
			out += `\` + `"\btnfr`[short:short+1]
		case c < 0x20:
			out += fmt.Sprintf(`\u%04x`, c)
		default:
			out += s[i : i+1]
		}
	}
	return `"` + out + `"`
}

func TestQuoteAnyBytes(t *testing.T) {
	chance := rand.New(rand.NewSource(1))
	for n := range 3000 {
		b := make([]byte, n%40)
		for i := range b {
			b[i] = byte(chance.Intn(256) >> chance.Intn(4))
		}
		if got := Quote(string(b)); got != plainQuote(string(b)) {
			t.Errorf("%q: %q", b, got)
		}
	}
}

// TestQuoteLong has texts longer than one that is put.
func TestQuoteLong(t *testing.T) {
	for _, n := range []int{4094, 4095, 4096, 4097, 1 << 20} {
		a := strings.Repeat("a", n)
		if Quote(a) != `"`+a+`"` || Quote(strings.Repeat("\x01", n)) != `"`+strings.Repeat(`\u0001`, n)+`"` {
			t.Error(n)
		}
	}
}
