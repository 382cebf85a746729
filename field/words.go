package field

import (
	"math/bits"

	"cachet/api"
)

// What 2^255 and 2^256 leave, divided by the prime: what stands beyond them is
// so many times added below them.
const (
	beyond255 = 19
	beyond256 = 2 * beyond255
)

// words are a number below 2^256, the lowest word first.
type words [4]uint64

func prime() words {
	return words{1<<64 - beyond255, 1<<64 - 1, 1<<64 - 1, 1<<63 - 1}
}

// read is the number of 32 bytes.
func read(b api.Key) words {
	var w words
	for i, c := range b {
		w[i/8] |= uint64(c) << (i % 8 * 8)
	}
	return w
}

// low is what stands below 2^255.
func (w words) low() words {
	w[3] &= 1<<63 - 1
	return w
}

// more is w and n, which together stay below 2^256.
func (w words) more(n uint64) words {
	for i := range w {
		w[i], n = bits.Add64(w[i], n, 0)
	}
	return w
}

// less is w less v, which is at most w.
func (w words) less(v words) words {
	var borrow uint64
	for i := range w {
		w[i], borrow = bits.Sub64(w[i], v[i], borrow)
	}
	return w
}

// with is w and so many times v, and what of it stands beyond 2^256.
func (w words) with(many uint64, v words) (words, uint64) {
	var over uint64
	for i := range w {
		w[i], over = step(w[i], many, v[i], over)
	}
	return w, over
}

// times is the product: what stands below 2^256, and what beyond it. Behind each
// row its lowest word is done with, and the others move down by one.
func (w words) times(v words) (low, high words) {
	var first, second, third, fourth, over uint64
	for i, n := range w {
		low[i], over = step(first, n, v[0], 0)
		first, over = step(second, n, v[1], over)
		second, over = step(third, n, v[2], over)
		third, fourth = step(fourth, n, v[3], over)
	}
	return low, words{first, second, third, fourth}
}

// step is w and many times n and over, in two words. These always hold it:
// (2^64 - 1)^2 + 2 (2^64 - 1) is 2^128 - 1.
func step(w, many, n, over uint64) (low, high uint64) {
	high, low = bits.Mul64(many, n)
	low, carry := bits.Add64(low, w, 0)
	high += carry
	low, carry = bits.Add64(low, over, 0)
	return low, high + carry
}

// settle is the element of w and over times 2^256. While over is less than 2^32,
// one prime taken away is enough behind the first sum.
func settle(w words, over uint64) Elem {
	top := over<<1 | w[3]>>63
	w = w.low().more(beyond255 * top)
	// With 19 more it reaches 2^255 just if it had reached the prime.
	if more := w.more(beyond255); more[3]>>63 == 1 {
		w = more.low()
	}
	return Elem{w}
}
