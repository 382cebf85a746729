package coder

import (
	"bytes"
	"encoding/base64"
	"encoding/hex"
	"strings"
	"testing"
)

// P14.1: Hex and Base64.

func TestExamples(t *testing.T) {
	if got := Hex([]byte{0, 171}); got != "00ab" {
		t.Error(got)
	}
	if got := Base64([]byte("a")); got != "YQ==" {
		t.Error(got)
	}
	if got, err := Unhex("00ab"); err != nil || !bytes.Equal(got, []byte{0, 171}) {
		t.Error(got, err)
	}
	if got, err := Unbase64("YQ=="); err != nil || string(got) != "a" {
		t.Error(got, err)
	}
}

// TestKnown has texts that are written out, so that not all tests lean on what is reckoned here.
func TestKnown(t *testing.T) {
	for _, c := range []struct{ bytes, hex, base64 string }{
		{"", "", ""},
		{"f", "66", "Zg=="},
		{"fo", "666f", "Zm8="},
		{"foo", "666f6f", "Zm9v"},
		{"foob", "666f6f62", "Zm9vYg=="},
		{"fooba", "666f6f6261", "Zm9vYmE="},
		{"foobar", "666f6f626172", "Zm9vYmFy"},
		{"\x00", "00", "AA=="},
		{"\x00\x00", "0000", "AAA="},
		{"\x00\x00\x00", "000000", "AAAA"},
		{"\x00\x00\x00\x00", "00000000", "AAAAAA=="},
		{"\xff", "ff", "/w=="},
		{"\xff\xff", "ffff", "//8="},
		{"\xff\xff\xff", "ffffff", "////"},
		{"\xff\xff\xff\xff", "ffffffff", "/////w=="},
		{"\x01\x23\x45\x67\x89\xab\xcd\xef", "0123456789abcdef", "ASNFZ4mrze8="},
		{"\xfb\xef\xbe", "fbefbe", "++++"},
		{"\x80", "80", "gA=="},
		{"\x01", "01", "AQ=="},
		{"\x80\x01", "8001", "gAE="},
	} {
		b := []byte(c.bytes)
		if got := Hex(b); got != c.hex {
			t.Errorf("% x: %q", b, got)
		}
		if got := Base64(b); got != c.base64 {
			t.Errorf("% x: %q", b, got)
		}
		if got, err := Unhex(c.hex); err != nil || string(got) != c.bytes {
			t.Errorf("%q: % x, %v", c.hex, got, err)
		}
		if got, err := Unbase64(c.base64); err != nil || string(got) != c.bytes {
			t.Errorf("%q: % x, %v", c.base64, got, err)
		}
	}
}

func TestNoBytes(t *testing.T) {
	for _, c := range codes() {
		if c.put(nil) != "" || c.put([]byte{}) != "" || c.put([]byte("abc")[:0]) != "" {
			t.Errorf("%s of no bytes", c.name)
		}
		if b, err := c.take(""); err != nil || len(b) > 0 {
			t.Errorf("%s of no signs: % x, %v", c.name, b, err)
		}
	}
}

func TestEveryByte(t *testing.T) {
	for _, c := range codes() {
		for a := range 256 {
			b := byte(a)
			c.round(t, []byte{b})
			for n := 2; n <= 4; n++ {
				for at := range n {
					lone := make([]byte, n)
					lone[at] = b
					c.round(t, lone)
					full := bytes.Repeat([]byte{0xff}, n)
					full[at] = b
					c.round(t, full)
				}
				c.round(t, bytes.Repeat([]byte{b}, n))
			}
		}
	}
}

func TestEveryTwoBytes(t *testing.T) {
	for a := range 256 {
		for b := range 256 {
			two := []byte{byte(a), byte(b)}
			if got, want := Hex(two), hex.EncodeToString(two); got != want {
				t.Errorf("% x: %q", two, got)
			}
			if got, want := Base64(two), base64.StdEncoding.EncodeToString(two); got != want {
				t.Errorf("% x: %q", two, got)
			}
			for _, c := range codes() {
				if back, err := c.take(c.put(two)); err != nil || !bytes.Equal(back, two) {
					t.Errorf("%s of % x: back % x, %v", c.name, two, back, err)
				}
			}
		}
	}
}

func TestEveryLength(t *testing.T) {
	for _, c := range codes() {
		for n := range 200 {
			c.round(t, sample(n))
			c.round(t, make([]byte, n))
			c.round(t, bytes.Repeat([]byte{0xff}, n))
		}
	}
}

func TestLarge(t *testing.T) {
	for _, n := range []int{1 << 20, 1<<20 + 1, 1<<20 + 2} {
		b := sample(n)
		if Hex(b) != hex.EncodeToString(b) || Base64(b) != base64.StdEncoding.EncodeToString(b) {
			t.Errorf("%d bytes: other signs", n)
		}
		for _, c := range codes() {
			if back, err := c.take(c.put(b)); err != nil || !bytes.Equal(back, b) {
				t.Errorf("%s of %d bytes: %d back, %v", c.name, n, len(back), err)
			}
		}
	}
}

// TestAllSigns has each sign at each place of four, and of sixteen figures at each of two.
func TestAllSigns(t *testing.T) {
	signs := "ABCDEFGHIJKLMNOPQRSTUVWXYZabcdefghijklmnopqrstuvwxyz0123456789+/"
	for n := range 64 {
		for at := range 4 {
			bits := n << (18 - 6*at)
			b := []byte{byte(bits >> 16), byte(bits >> 8), byte(bits)}
			want := strings.Repeat("A", at) + signs[n:n+1] + strings.Repeat("A", 3-at)
			if got := Base64(b); got != want {
				t.Errorf("sign %d at %d: %q, want %q", n, at, got, want)
			}
			if got, err := Unbase64(want); err != nil || !bytes.Equal(got, b) {
				t.Errorf("%q: % x, %v", want, got, err)
			}
		}
	}
	b, err := Unbase64(signs)
	if err != nil || len(b) != 48 || Base64(b) != signs {
		t.Errorf("all signs: % x, %v", b, err)
	}
	figures := "0123456789abcdef"
	for n := range 16 {
		for other := range 16 {
			s := figures[n:n+1] + figures[other:other+1]
			if got, err := Unhex(s); err != nil || len(got) != 1 || int(got[0]) != 16*n+other || Hex(got) != s {
				t.Errorf("%q: % x, %v", s, got, err)
			}
		}
	}
}
