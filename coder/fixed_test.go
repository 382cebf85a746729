package coder

import (
	"bytes"
	"encoding/base64"
	"encoding/hex"
	"strings"
	"testing"

	"cachet/api"
)

// P14.1: Sum and Wide.

func sumHolds(t *testing.T, s string) {
	t.Helper()
	var want api.Sum
	var fault error = api.ErrForm
	if b, ok := codes()[0].plainTake(s); ok && len(b) == 32 {
		copy(want[:], b)
		fault = nil
	}
	if got, err := Sum(s); got != want || err != fault {
		t.Errorf("%.200q: % x, %v", s, got, err)
	}
}

func wideHolds(t *testing.T, s string) {
	t.Helper()
	var want api.Wide
	var fault error = api.ErrForm
	if b, ok := codes()[1].plainTake(s); ok && len(b) == 64 {
		copy(want[:], b)
		fault = nil
	}
	if got, err := Wide(s); got != want || err != fault {
		t.Errorf("%.200q: % x, %v", s, got, err)
	}
}

func TestSumOfLengths(t *testing.T) {
	for n := range 140 {
		for _, b := range [][]byte{sample(n), make([]byte, n), bytes.Repeat([]byte{0xff}, n)} {
			s := hex.EncodeToString(b)
			d, err := Sum(s)
			if n == 32 {
				if err != nil || !bytes.Equal(d[:], b) || Hex(d[:]) != s {
					t.Errorf("%q: % x, %v", s, d, err)
				}
			} else if err != api.ErrForm || d != (api.Sum{}) {
				t.Errorf("%d bytes: % x, %v", n, d, err)
			}
			sumHolds(t, s)
			sumHolds(t, base64.StdEncoding.EncodeToString(b))
			sumHolds(t, string(b))
		}
	}
}

func TestWideOfLengths(t *testing.T) {
	for n := range 140 {
		for _, b := range [][]byte{sample(n), make([]byte, n), bytes.Repeat([]byte{0xff}, n)} {
			s := base64.StdEncoding.EncodeToString(b)
			w, err := Wide(s)
			if n == 64 {
				if err != nil || !bytes.Equal(w[:], b) || Base64(w[:]) != s || len(s) != 88 {
					t.Errorf("%q: % x, %v", s, w, err)
				}
			} else if err != api.ErrForm || w != (api.Wide{}) {
				t.Errorf("%d bytes: % x, %v", n, w, err)
			}
			wideHolds(t, s)
			wideHolds(t, hex.EncodeToString(b))
			wideHolds(t, string(b))
		}
	}
}

// TestSumWrongSign has 64 signs of which one is none, at each place.
func TestSumWrongSign(t *testing.T) {
	s := hex.EncodeToString(sample(32))
	for at := range 64 {
		for a := range 256 {
			sumHolds(t, s[:at]+string([]byte{byte(a)})+s[at+1:])
		}
		for _, wrong := range []string{"/", ":", "`", "g", "@", "G", " ", "A", "F", "\n"} {
			if d, err := Sum(s[:at] + wrong + s[at+1:]); err != api.ErrForm || d != (api.Sum{}) {
				t.Errorf("%q at %d: % x, %v", wrong, at, d, err)
			}
		}
	}
	for _, wrong := range []string{"", s[1:], s[:63], s + "0", "0" + s, " " + s, s + " ", s + "\n", "0x" + s, "0x" + s[2:], strings.ToUpper(s), s + s, s[:62], s + "00", s[:62] + "é", s[:60] + "😀"} {
		if d, err := Sum(wrong); err != api.ErrForm || d != (api.Sum{}) {
			t.Errorf("%q: % x, %v", wrong, d, err)
		}
	}
}

// TestWideWrongSign has 88 signs of which one is another, at each place: the last sign's missing bits among them.
func TestWideWrongSign(t *testing.T) {
	s := base64.StdEncoding.EncodeToString(sample(64))
	for at := range 88 {
		for a := range 256 {
			wideHolds(t, s[:at]+string([]byte{byte(a)})+s[at+1:])
		}
		for _, wrong := range []string{"-", "_", " ", "\n", "\r", "é"[:1], "\x00", ".", ","} {
			if w, err := Wide(s[:at] + wrong + s[at+1:]); err != api.ErrForm || w != (api.Wide{}) {
				t.Errorf("%q at %d: % x, %v", wrong, at, w, err)
			}
		}
	}
	a := strings.Repeat("A", 85)
	for _, wrong := range []string{a + "B==", a + "P==", a + "R==", a + "/==", a + "AA=", a + "AB=", a + "AAA", a + "===", a + "A=A", a + "A=", a + "A", a + "A===", a + "A==\n", a + "A==AAAA", a + "A======", "", s[4:], "AAAA" + s, s + s, s[:84], s + "\n", " " + s, s + " "} {
		if w, err := Wide(wrong); err != api.ErrForm || w != (api.Wide{}) {
			t.Errorf("%q: % x, %v", wrong, w, err)
		}
	}
	for _, right := range []string{a + "A==", a + "Q==", a + "g==", a + "w=="} {
		if w, err := Wide(right); err != nil || Base64(w[:]) != right {
			t.Errorf("%q: % x, %v", right, w, err)
		}
	}
}
