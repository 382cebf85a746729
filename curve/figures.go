package curve

import "iter"

// figures are a number's bits, from the highest on; its bytes come the lowest
// first. They are a copy: what becomes of the bytes later changes none of them.
func figures(bytes []byte) iter.Seq[byte] {
	own := make([]byte, len(bytes))
	copy(own, bytes)
	return func(yield func(byte) bool) {
		for i := 8*len(own) - 1; i >= 0; i-- {
			if !yield(own[i/8] >> (i % 8) & 1) {
				return
			}
		}
	}
}

// many is n times one, as plus adds, by which none changes nothing: with each
// figure it is twice what the higher ones gave, and one more where that is 1.
func many[T any](n []byte, none, one T, plus func(a, b T) T) T {
	sum := none
	for figure := range figures(n) {
		sum = plus(sum, sum)
		if figure == 1 {
			sum = plus(sum, one)
		}
	}
	return sum
}
