package coder

import (
	"bytes"
	"encoding/base64"
	"encoding/hex"
	"fmt"
	"strings"
	"testing"

	"cachet/api"
)

// sample is a text of n bytes in which no two rows of bytes are alike.
func sample(n int) []byte {
	text := make([]byte, n)
	x := uint64(n) + 1
	for i := range text {
		x = x*6364136223846793005 + 1442695040888963407
		text[i] = byte(x >> 56)
	}
	return text
}

// code is one of the two, with its calls and what the chapter says of it in another way.
type code struct {
	name     string
	put      func([]byte) string
	take     func(string) ([]byte, error)
	plainPut func([]byte) string
	// library is what the language's own library makes of a text; it takes more texts than it should.
	library func(string) ([]byte, error)
}

func codes() []code {
	return []code{
		{"hex", Hex, Unhex, plainHex, hex.DecodeString},
		{"base64", Base64, Unbase64, plainBase64, base64.StdEncoding.DecodeString},
	}
}

// plainHex has the figures of each byte, as numbers are written.
func plainHex(b []byte) string {
	out := ""
	for _, c := range b {
		out += fmt.Sprintf("%x%x", c/16, c%16)
	}
	return out
}

// plainBase64 cuts the bytes' bits, written out, into pieces of six.
func plainBase64(b []byte) string {
	bits := ""
	for _, c := range b {
		bits += fmt.Sprintf("%08b", c)
	}
	for len(bits)%6 != 0 {
		bits += "0"
	}
	out := ""
	for i := 0; i < len(bits); i += 6 {
		var n int
		fmt.Sscanf(bits[i:i+6], "%b", &n)
		out += string(plainSign(n))
	}
	return out + strings.Repeat("=", (3-len(b)%3)%3)
}

func plainSign(n int) rune {
	switch {
	case n < 26:
		return 'A' + rune(n)
	case n < 52:
		return 'a' + rune(n-26)
	case n < 62:
		return '0' + rune(n-52)
	case n == 62:
		return '+'
	}
	return '/'
}

// plainTake is the bytes whose signs these are, and whether there are any: whatever the library makes of a text, it must be coded to that text.
func (c code) plainTake(s string) ([]byte, bool) {
	b, err := c.library(s)
	if err != nil || c.plainPut(b) != s {
		return nil, false
	}
	return b, true
}

// holds asks both calls of a code about a text, whatever it is: it is taken just if it is of some bytes, and these are coded to it (P14.1, P14.2).
func (c code) holds(t *testing.T, s string) {
	t.Helper()
	want, ok := c.plainTake(s)
	got, err := c.take(s)
	if !ok {
		if err != api.ErrForm || len(got) > 0 {
			t.Errorf("%s of %.100q: % x, %v", c.name, s, got, err)
		}
		return
	}
	if err != nil || !bytes.Equal(got, want) {
		t.Errorf("%s of %.100q: % x, %v, want % x", c.name, s, got, err, want)
	}
	if again := c.put(got); again != s {
		t.Errorf("%s of %.100q: coded again %.100q", c.name, s, again)
	}
}

// round asks that bytes are coded as the chapter says, and are decoded (P14.1, P14.2).
func (c code) round(t *testing.T, b []byte) {
	t.Helper()
	s := c.put(b)
	if want := c.plainPut(b); s != want {
		t.Errorf("%s of % x: %.100q, want %.100q", c.name, b, s, want)
	}
	if back, err := c.take(s); err != nil || !bytes.Equal(back, b) {
		t.Errorf("%s of % x: back % x, %v", c.name, b, back, err)
	}
}

// refuses asks that texts are of no bytes.
func (c code) refuses(t *testing.T, all ...string) {
	t.Helper()
	for _, s := range all {
		if b, err := c.take(s); err != api.ErrForm || len(b) > 0 {
			t.Errorf("%s of %.100q: % x, %v", c.name, s, b, err)
		}
	}
}
