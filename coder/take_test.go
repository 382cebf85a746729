package coder

import (
	"math/rand"
	"strings"
	"testing"

	"cachet/api"
)

// P14.1: Unhex and Unbase64; P14.2 of what they take.

func TestUnhexWrong(t *testing.T) {
	codes()[0].refuses(t,
		"0", "a", "f", "000", "00a", "abc", "abcde", strings.Repeat("0", 63), strings.Repeat("f", 65),
		"AB", "Ab", "aB", "0A", "F0", "00AB", "00aB", "FF",
		"/0", "0/", ":0", "0:", "`0", "0`", "g0", "0g", "@0", "0@", "G0", "0G",
		" ", "  ", " a", "a ", " ab", "ab ", " ab ", "  ab", "ab  ", "a b", "a bc", "ab cd", "ab  cd", "\tab", "ab\n", "ab\r\n", "\nab", "ab\x00\x00", "\x00\x00",
		"é", "éé", "aé", "aéb", "0é1", "😀", "0０", "００", "１", "\xff\xff", "\xc3\xa9ab", "ａ",
		"0x", "0x00", "-1", "+1", "ab-c", "ab_c", "==", "ab==", "zz", "YQ==",
	)
}

func TestUnbase64Length(t *testing.T) {
	c := codes()[1]
	c.refuses(t,
		"Y", "YQ", "YWI", "YWJjY", "YWJjYQ", "YWJjYWI", "A", "AA", "AAA", "AAAAA", "AAAAAA", "AAAAAAA",
		"=", "==", "===", "Y=", "Y==", "YQ=", "YWI==", "YWJj=", "YWJj==", "YWJj===", "YWJjYQ=", "YWJjYWI==",
	)
	for n := range 300 {
		if n%4 != 0 {
			c.refuses(t, strings.Repeat("A", n), strings.Repeat("=", n), strings.Repeat("A", n-1)+"=")
		}
	}
}

func TestUnbase64Fillers(t *testing.T) {
	c := codes()[1]
	for s, want := range map[string]string{"YQ==": "a", "YWI=": "ab", "YWJj": "abc", "YWJjYQ==": "abca", "YWJjYWI=": "abcab", "AA==": "\x00", "AAA=": "\x00\x00", "/w==": "\xff", "//8=": "\xff\xff"} {
		if got, err := Unbase64(s); err != nil || string(got) != want {
			t.Errorf("%q: %q, %v", s, got, err)
		}
	}
	c.refuses(t,
		"====", "Y===", "A===", "=YQ=", "==YQ", "=Y==", "Y=Q=", "Y==Q", "Y=QQ", "=YWJ", "YW=I", "YW=J", "=AAA", "A=AA", "AA=A",
		"YWJj====", "YWJjY===", "YWJj=YQ=", "========", "====YWJj", "====YQ==",
		"YQ==YQ==", "YQ==YWJj", "YWI=YWJj", "YWI=YQ==", "YWI=YWI=", "AA==AAAA", "AAA=AAAA", "AA==AA==",
		"YWJjYQ==YWJj", "YWJjYQ=A", "YWJjY=Q=",
		"YQ==\n", "YQ======", "YQ=\n", "YQ=A", "YQ= ",
	)
}

// TestUnbase64MissingBits has each last sign: of two it gives two bits, of three four.
func TestUnbase64MissingBits(t *testing.T) {
	c := codes()[1]
	signs := "ABCDEFGHIJKLMNOPQRSTUVWXYZabcdefghijklmnopqrstuvwxyz0123456789+/"
	for n := range 64 {
		last := signs[n : n+1]
		for _, ahead := range []string{"", "YWJj", "////"} {
			for first := range 64 {
				two := ahead + signs[first:first+1] + last + "=="
				three := ahead + signs[first:first+1] + "A" + last + "="
				full := ahead + signs[first:first+1] + "+/" + last
				if n%16 != 0 {
					c.refuses(t, two)
				}
				if n%4 != 0 {
					c.refuses(t, three)
				}
				c.holds(t, two)
				c.holds(t, three)
				c.holds(t, full)
			}
		}
	}
	c.refuses(t, "YR==", "YWK=", "YX==", "YWJ=", "Yf==", "/x==", "//9=", "AB==", "AAB=", "AP==", "AAD=")
}

func TestUnbase64Wrong(t *testing.T) {
	codes()[1].refuses(t,
		"-_-_", "AAA-", "AAA_", "-AAA", "_AAA", "A-A=", "A_==", "A-==",
		"Y Q=", " YQ=", "YQ= ", " YQ==", "YQ== ", "YQ ==", "YQ = =", "YW J", " YWJ", "YWJ ", "    ", "YWJj    ", "    YWJj", "YW  Jj  ",
		"\n", "\r\n", "\n\n\n\n", "YWJj\n", "YWJj\r\n", "YWJj\r\n\r\n", "YW\nJj", "YW\r\nJj", "YWJ\n", "\nYWJ", "YW\r\n", "YWJj\nYWJj\r\n\n", "YQ\n==", "YQ\n\n\n\n==", "YQ=\n=", "YQ==\n\n\n\n", "YQ==\r\n\r\n",
		"YWJj\t\t\t\t", "\x00\x00\x00\x00", "AAA\x00", "AAA\xff", "\xff\xff\xff\xff", "éé", "éAA", "AéA", "😀", "AA😀AA", "ＡA", "AＡ", "AAA.", "AAA,", "AAA@", "AAA[", "AAA`", "AAA{", "AAA:", "AAA*", "AAA0=", "AAA~",
	)
}

// TestOneSignAnywhere puts each byte to each place of right texts, instead of what is there and between.
func TestOneSignAnywhere(t *testing.T) {
	for _, c := range codes() {
		for n := range 8 {
			s := c.put(sample(n))
			for at := range len(s) + 1 {
				for a := range 256 {
					sign := string([]byte{byte(a)})
					c.holds(t, s[:at]+sign+s[at:])
					c.holds(t, s[:at]+sign+sign+s[at:])
					if at < len(s) {
						c.holds(t, s[:at]+sign+s[at+1:])
					}
				}
				if at < len(s) {
					c.holds(t, s[:at]+s[at+1:])
				}
				c.holds(t, s[:at])
				c.holds(t, s[at:])
			}
		}
	}
}

func TestEveryShortText(t *testing.T) {
	for _, c := range codes() {
		for a := range 256 {
			c.holds(t, string([]byte{byte(a)}))
			for b := range 256 {
				c.holds(t, string([]byte{byte(a), byte(b)}))
			}
		}
	}
}

// TestEveryFourOfSome has all texts of four of some signs, alone, behind others, and with one more =.
func TestEveryFourOfSome(t *testing.T) {
	some := "A/Qwg=+ 9\n"
	for n := range len(some) * len(some) * len(some) * len(some) {
		s := ""
		for range 4 {
			s += some[n%len(some) : n%len(some)+1]
			n /= len(some)
		}
		for _, c := range codes() {
			c.holds(t, s)
			c.holds(t, "AAAA"+s)
			c.holds(t, s+"=")
		}
	}
}

func TestAnyText(t *testing.T) {
	signs := [...]string{"0", "9", "a", "f", "A", "Z", "z", "+", "/", "=", "=", "Q", "w", "g", " ", "\n", "-", "é"}
	taken := 0
	for seed := range 40000 {
		chance := rand.New(rand.NewSource(int64(seed)))
		s := ""
		for range chance.Intn(14) {
			s += signs[chance.Intn(4+chance.Intn(len(signs)-3))]
		}
		for _, c := range codes() {
			c.holds(t, s)
			if _, err := c.take(s); err == nil {
				taken++
			}
		}
	}
	if taken < 1000 {
		t.Errorf("only %d were taken", taken)
	}
}

// TestErrorAlone: beside an error there are no bytes, not even those ahead of the fault.
func TestErrorAlone(t *testing.T) {
	long := sample(1000)
	for _, c := range codes() {
		s := c.put(long)
		for _, wrong := range []string{s + "!", s + "!!!!", s[:len(s)-1] + "!", s[:len(s)-4] + "!AA=", s + "=", s[1:]} {
			if b, err := c.take(wrong); err != api.ErrForm || len(b) > 0 {
				t.Errorf("%s: %d bytes, %v", c.name, len(b), err)
			}
		}
	}
}
