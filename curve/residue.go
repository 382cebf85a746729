package curve

import (
	"math/bits"

	"cachet/api"
)

// longest is how many bytes Residue takes.
const longest = 64

// residue is a number below the order, the lowest word first.
type residue [4]uint64

// order is the generator's.
func order() residue {
	return residue{0x5812631a5cf5d3ed, 0x14def9dea2f79cd6, 0, 1 << 60}
}

// Residue is the residue of a text.
func Residue(text []byte) (api.Key, bool) {
	if len(text) > longest {
		return api.Key{}, false
	}
	return times(text, residue{1}).key(), true
}

// Times is the residue of a product and a sum.
func Times(a, b, c api.Key) api.Key {
	one := residue{1}
	product := times(a[:], times(b[:], one))
	return product.plus(times(c[:], one)).key()
}

// Least tells whether a text is a residue's.
func Least(text api.Key) bool {
	least, _ := Residue(text[:])
	return least == text
}

// times is so many times a residue; of 1 it is the number's own.
func times(n []byte, a residue) residue {
	return many(n, residue{}, a, residue.plus)
}

// plus is a sum: there is room for it ahead of the order being taken away.
func (a residue) plus(b residue) residue {
	var sum, rest residue
	var carry, borrow uint64
	for i, word := range order() {
		sum[i], carry = bits.Add64(a[i], b[i], carry)
		rest[i], borrow = bits.Sub64(sum[i], word, borrow)
	}
	if borrow == 1 {
		return sum
	}
	return rest
}

func (a residue) key() api.Key {
	var text api.Key
	for i := range text {
		text[i] = byte(a[i/8] >> (i % 8 * 8))
	}
	return text
}
