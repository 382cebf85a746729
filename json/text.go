package json

import (
	"strings"
	"unicode/utf8"
)

// quoted reads a text in quotation marks.
func (r *reader) quoted() (string, bool) {
	if !r.take(`"`) {
		return "", false
	}
	var out strings.Builder
	for !r.take(`"`) {
		c, ok := r.letter()
		if !ok {
			return "", false
		}
		out.WriteRune(c)
	}
	return out.String(), true
}

// letter reads a sign of a text, as it is or behind a backslash.
func (r *reader) letter() (rune, bool) {
	if r.take(`\`) {
		return r.escaped()
	}
	c, n := utf8.DecodeRuneInString(r.rest)
	// Wrong bytes and the end are told by the count: the sign that stands for them is one of UTF-8, too.
	if c < 0x20 || c == utf8.RuneError && n < 2 {
		return 0, false
	}
	r.rest = r.rest[n:]
	return c, true
}

// escaped reads what stands behind a backslash.
func (r *reader) escaped() (rune, bool) {
	if r.rest == "" {
		return 0, false
	}
	c := r.rest[0]
	r.rest = r.rest[1:]
	switch c {
	case '"', '\\', '/':
		return rune(c), true
	case 'b':
		return '\b', true
	case 'f':
		return '\f', true
	case 'n':
		return '\n', true
	case 'r':
		return '\r', true
	case 't':
		return '\t', true
	case 'u':
		return r.coded()
	}
	return 0, false
}

// coded reads the figures of a sign, and those of its other half, if it is one.
func (r *reader) coded() (rune, bool) {
	c, ok := r.four()
	if !ok || c < 0xd800 || c > 0xdfff {
		return c, ok
	}
	if c > 0xdbff || !r.take(`\u`) {
		return 0, false
	}
	low, ok := r.four()
	if !ok || low < 0xdc00 || low > 0xdfff {
		return 0, false
	}
	return 0x10000 + (c-0xd800)<<10 + (low - 0xdc00), true
}

// four reads four hexadecimal figures.
func (r *reader) four() (rune, bool) {
	if len(r.rest) < 4 {
		return 0, false
	}
	var c rune
	for i := range 4 {
		n, ok := figure(r.rest[i])
		if !ok {
			return 0, false
		}
		c = c<<4 + n
	}
	r.rest = r.rest[4:]
	return c, true
}

// figure is what a hexadecimal figure of either case stands for.
func figure(f byte) (rune, bool) {
	switch {
	case '0' <= f && f <= '9':
		return rune(f - '0'), true
	case 'a' <= f && f <= 'f':
		return rune(f-'a') + 10, true
	case 'A' <= f && f <= 'F':
		return rune(f-'A') + 10, true
	}
	return 0, false
}
