package sum

import "math/bits"

// word is what a digest is reckoned in.
type word interface {
	uint32 | uint64
}

// plan is in what the two digests differ, beside their words. Of three counts
// of bits, a word is turned by the first two; by the third it is turned in
// highA and highE, and shifted in lowNear and lowFar.
type plan struct {
	bits    int // of a word
	rounds  int
	lowNear [3]int // of the word two ahead
	lowFar  [3]int // of the word fifteen ahead
	highA   [3]int
	highE   [3]int
}

func shortPlan() plan {
	return plan{
		bits:    32,
		rounds:  64,
		lowNear: [3]int{17, 19, 10},
		lowFar:  [3]int{7, 18, 3},
		highA:   [3]int{2, 13, 22},
		highE:   [3]int{6, 11, 25},
	}
}

func longPlan() plan {
	return plan{
		bits:    64,
		rounds:  80,
		lowNear: [3]int{19, 61, 6},
		lowFar:  [3]int{1, 8, 7},
		highA:   [3]int{28, 34, 39},
		highE:   [3]int{14, 18, 41},
	}
}

// digest is a digest on its way. It holds no more of the text than one piece,
// so that parts need not be put together first.
type digest[W word] struct {
	plan   plan
	words  [8]W
	piece  [128]byte // the short digest's pieces fill half of it
	filled int       // bytes of the piece that are there
	length uint64    // bytes that were taken
}

func begin[W word](p plan) digest[W] {
	s := digest[W]{plan: p}
	for i := range s.words {
		s.words[i] = s.leading(squares[i])
	}
	return s
}

// leading is as many leading bits as a word has: both digests cut their
// constants from one table.
func (s *digest[W]) leading(x uint64) W { return W(x >> (64 - s.plan.bits)) }

// size is how many bytes a piece has: those of sixteen words.
func (s *digest[W]) size() int { return s.plan.bits * 2 }

// take goes on with more of the text.
func (s *digest[W]) take(b []byte) {
	s.length += uint64(len(b))
	for len(b) > 0 {
		n := copy(s.piece[s.filled:s.size()], b)
		b = b[n:]
		s.filled += n
		if s.filled == s.size() {
			s.mix()
			s.filled = 0
		}
	}
}

// end pads the text, and puts the words into out.
func (s *digest[W]) end(out []byte) {
	s.pad()
	width := s.plan.bits / 8
	for i, w := range s.words {
		put(out[i*width:(i+1)*width], w)
	}
}

// pad makes whole pieces of the text. The count comes first, since take counts
// what pads the text as well.
func (s *digest[W]) pad() {
	var count [16]byte
	high, low := bits.Mul64(s.length, 8)
	put(count[:8], high)
	put(count[8:], low)

	tail := s.size() / 8
	s.take([]byte{0x80})
	for s.filled != s.size()-tail {
		s.take([]byte{0})
	}
	s.take(count[16-tail:])
}

// put fills out with a word's bytes, the highest first.
func put[W word](out []byte, w W) {
	for i := len(out) - 1; i >= 0; i-- {
		out[i] = byte(w)
		w >>= 8
	}
}

// mix adds the whole piece to the words.
func (s *digest[W]) mix() {
	p := s.plan
	a, b, c, d := s.words[0], s.words[1], s.words[2], s.words[3]
	e, f, g, h := s.words[4], s.words[5], s.words[6], s.words[7]
	row := s.row()
	for t := range p.rounds {
		choice := e&f | ^e&g
		most := a&b | a&c | b&c
		u := h + s.high(e, p.highE) + choice + s.leading(cubes[t]) + row[t]
		v := s.high(a, p.highA) + most
		a, b, c, d, e, f, g, h = u+v, a, b, c, d+u, e, f, g
	}
	for i, w := range [8]W{a, b, c, d, e, f, g, h} {
		s.words[i] += w
	}
}

// row is the words of the rounds.
func (s *digest[W]) row() [80]W {
	p := s.plan
	width := p.bits / 8
	var row [80]W
	for t := range 16 {
		for _, b := range s.piece[t*width : (t+1)*width] {
			row[t] = row[t]<<8 | W(b)
		}
	}
	for t := 16; t < p.rounds; t++ {
		row[t] = s.low(row[t-2], p.lowNear) + row[t-7] + s.low(row[t-15], p.lowFar) + row[t-16]
	}
	return row
}

func (s *digest[W]) high(x W, by [3]int) W {
	return s.turn(x, by[0]) ^ s.turn(x, by[1]) ^ s.turn(x, by[2])
}

func (s *digest[W]) low(x W, by [3]int) W {
	return s.turn(x, by[0]) ^ s.turn(x, by[1]) ^ x>>by[2]
}

// turn is a word turned right.
func (s *digest[W]) turn(x W, n int) W { return x>>n | x<<(s.plan.bits-n) }
