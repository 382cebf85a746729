package field

// grower makes of a power the one of twice its exponent, so many times, then
// multiplies it; it goes on from there at the next call.
type grower func(twice int, by Elem) Elem

// first begins with the power by 1.
func first(a Elem) grower {
	power := a
	return func(twice int, by Elem) Elem {
		for range twice {
			power = power.Times(power)
		}
		power = power.Times(by)
		return power
	}
}

// ones has grown the power by 2^250 - 1, an exponent of 250 ones, with which all
// that are asked for begin. The names tell how many ones there are.
func ones(a Elem) grower {
	grow := first(a)
	two := grow(1, a)
	grow(2, two)
	five := grow(1, a)
	ten := grow(5, five)
	twenty := grow(10, ten)
	grow(20, twenty)
	fifty := grow(10, ten)
	hundred := grow(50, fifty)
	grow(100, hundred)
	grow(50, fifty)
	return grow
}

// inverse is the power by the prime less 2, which times a is 1; of 0 it is 0.
func inverse(a Elem) Elem {
	second := a.Times(a)
	fourth := second.Times(second)
	eleventh := fourth.Times(fourth).Times(second).Times(a)
	grow := ones(a)
	return grow(5, eleventh) // 32 (2^250 - 1) + 11 = 2^255 - 21
}

// anyRoot is one of the two whose square is a. If there is one, the power by
// (prime + 3) / 8 has the square a or -a; a root of -1 mends the latter.
func anyRoot(a Elem) (Elem, bool) {
	grow := ones(a)
	root := grow(2, a.Times(a)) // 4 (2^250 - 1) + 2 = 2^252 - 2
	if !root.Times(root).Is(a) {
		root = root.Times(rootOfMinusOne())
	}
	return root, root.Times(root).Is(a)
}

// rootOfMinusOne is the power of 2, which is no square, by (prime - 1) / 4.
func rootOfMinusOne() Elem {
	return Elem{words{0xc4ee1b274a0ea0b0, 0x2f431806ad2fe478, 0x2b4d00993dfbd7a7, 0x2b8324804fc1df0b}}
}
