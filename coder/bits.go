package coder

import (
	"strings"

	"cachet/api"
)

// The signs of each code, by their numbers, and how many bits a sign has.
const (
	hexBits  = 4
	hexSigns = "0123456789abcdef"

	base64Bits  = 6
	base64Signs = "ABCDEFGHIJKLMNOPQRSTUVWXYZabcdefghijklmnopqrstuvwxyz0123456789+/"
	// base64Group is how many signs three bytes have; the last ones are made as many by the filler.
	base64Group = 4
	filler      = "="
)

// spread is bytes as signs of so many bits each, the topmost bit first; the bits that the last sign misses are 0.
func spread(b []byte, bits int, signs string) []byte {
	var out []byte
	held, have := 0, 0
	for _, c := range b {
		held, have = held<<8|int(c), have+8
		for have >= bits {
			have -= bits
			out = append(out, signs[held>>have])
			held &= 1<<have - 1
		}
	}
	if have > 0 {
		out = append(out, signs[held<<(bits-have)])
	}
	return out
}

// gather is the bytes of which spread makes these signs.
func gather(s string, bits int, signs string) ([]byte, error) {
	var out []byte
	held, have := 0, 0
	for i := range len(s) {
		number := strings.IndexByte(signs, s[i])
		if number < 0 {
			return nil, api.ErrForm
		}
		held, have = held<<bits|number, have+bits
		if have >= 8 {
			have -= 8
			out = append(out, byte(held>>have))
			held &= 1<<have - 1
		}
	}
	// What is left is less than a byte. A whole sign of it begins a byte that isn't there; and bits that aren't 0 would be coded as others.
	if have >= bits || held != 0 {
		return nil, api.ErrForm
	}
	return out, nil
}
