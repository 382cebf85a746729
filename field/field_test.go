package field

import (
	"encoding/hex"
	"math"
	"math/big"
	"slices"
	"strings"
	"testing"

	"cachet/api"
)

func whole(n int64) *big.Int { return big.NewInt(n) }

func power2(n int) *big.Int { return new(big.Int).Lsh(whole(1), uint(n)) }

func plus(u *big.Int, n int64) *big.Int { return new(big.Int).Add(u, whole(n)) }

func modulus() *big.Int { return plus(power2(255), -19) }

func modulo(u *big.Int) *big.Int { return new(big.Int).Mod(u, modulus()) }

// number is what 32 bytes tell, the lowest first.
func number(k api.Key) *big.Int {
	slices.Reverse(k[:])
	return new(big.Int).SetBytes(k[:])
}

// text is a number's 32 bytes, the lowest first.
func text(u *big.Int) api.Key {
	var k api.Key
	u.FillBytes(k[:])
	slices.Reverse(k[:])
	return k
}

func elem(u *big.Int) Elem { return Of(text(u)) }

// borders are numbers by 0 and the prime, by the borders of words and of parts
// of words, and with words that are all noughts or all ones; all below the prime.
func borders() []*big.Int {
	var out []*big.Int
	for i := int64(0); i < 20; i++ {
		out = append(out, whole(i), plus(modulus(), -1-i))
	}
	half := new(big.Int).Rsh(modulus(), 1)
	out = append(out, plus(half, -1), half, plus(half, 1), plus(half, 2))
	for _, n := range []int{8, 26, 31, 32, 51, 63, 64, 65, 127, 128, 129, 191, 192, 193, 253, 254} {
		for i := int64(-1); i < 2; i++ {
			u := plus(power2(n), i)
			out = append(out, u, new(big.Int).Sub(modulus(), u))
		}
	}
	for set := range 16 {
		u := whole(0)
		for i := range 4 {
			if set>>i&1 == 1 {
				u.Or(u, new(big.Int).Lsh(plus(power2(64), -1), uint(64*i)))
			}
		}
		out = append(out, modulo(u))
	}
	return out
}

// keys are n rows of 32 bytes without an order.
func keys(n int) []api.Key {
	out := make([]api.Key, n)
	x := uint64(n) + 1
	for i := range out {
		for j := range out[i] {
			x = x*6364136223846793005 + 1442695040888963407
			out[i][j] = byte(x >> 56)
		}
	}
	return out
}

// numbers are the borders, and some without an order.
func numbers(n int) []*big.Int {
	out := borders()
	for _, k := range keys(n) {
		k[31] &= 0x7f
		out = append(out, modulo(number(k)))
	}
	return out
}

// holds asks whether an element is that number.
func holds(t *testing.T, what string, got Elem, want *big.Int) {
	t.Helper()
	k := got.Key()
	if number(k).Cmp(want) != 0 {
		t.Fatalf("%s: %x, want %x", what, number(k), want)
	}
	if got.Even() != (want.Bit(0) == 0) {
		t.Fatalf("%s: Even of %x is %v", what, want, got.Even())
	}
	if !got.Is(elem(want)) || !elem(want).Is(got) {
		t.Fatalf("%s: is not the element of %x", what, want)
	}
}

// P3.1

func TestExamples(t *testing.T) {
	k := Int(-1).Key()
	if got := hex.EncodeToString(k[:]); got != "ec"+strings.Repeat("ff", 30)+"7f" {
		t.Error(got)
	}
	if got := Int(7).Over(Int(7)); !got.Is(Int(1)) {
		t.Error(got.Key())
	}
}

// TestKnown holds answers against ones that are written out, so that not all
// tests lean on what is reckoned here.
func TestKnown(t *testing.T) {
	root := func(n int) Elem {
		r, ok := Int(n).Root()
		if !ok {
			t.Errorf("%d has a root", n)
		}
		return r
	}
	for _, c := range []struct {
		what string
		got  Elem
		want string
	}{
		{"1/2", Int(1).Over(Int(2)), "f7" + strings.Repeat("ff", 30) + "3f"},
		{"4/5", Int(4).Over(Int(5)), "58" + strings.Repeat("66", 31)},
		{"-121665/121666", Int(-121665).Over(Int(121666)), "a3785913ca4deb75abd841414d0a700098e879777940c78c73fe6f2bee6c0352"},
		{"root of -1", root(-1), "b0a00e4a271beec478e42fad0618432fa7d7fb3d99004d2b0bdfc14f8024832b"},
		{"root of 1", root(1), "ec" + strings.Repeat("ff", 30) + "7f"},
		{"root of 4", root(4), "02" + strings.Repeat("00", 31)},
		{"root of 9", root(9), "ea" + strings.Repeat("ff", 30) + "7f"},
		{"root of 0", root(0), strings.Repeat("00", 32)},
	} {
		k := c.got.Key()
		if got := hex.EncodeToString(k[:]); got != c.want {
			t.Errorf("%s: %s, want %s", c.what, got, c.want)
		}
	}
}

func TestZeroElem(t *testing.T) {
	var z Elem
	holds(t, "zero", z, whole(0))
	if z.Key() != (api.Key{}) || !z.Is(Int(0)) || !z.Is(Of(api.Key{})) || !z.Even() || z.Is(Int(1)) {
		t.Error("the zero Elem is not 0")
	}
	holds(t, "0+5", z.Plus(Int(5)), whole(5))
	holds(t, "5-0", Int(5).Minus(z), whole(5))
	holds(t, "0-5", z.Minus(Int(5)), plus(modulus(), -5))
	holds(t, "0*5", z.Times(Int(5)), whole(0))
}

// TestOf goes over all numbers from the prime to 2^255 - 1, among others, each
// with and without the topmost bit, which doesn't count.
func TestOf(t *testing.T) {
	all := numbers(200)
	for i := int64(-40); i < 19; i++ {
		all = append(all, plus(modulus(), i))
	}
	for _, u := range all {
		k := text(u)
		if got := Of(k).Key(); got != text(modulo(u)) {
			t.Fatalf("%x: %x", u, got)
		}
		k[31] |= 0x80
		if got := Of(k).Key(); got != text(modulo(u)) {
			t.Fatalf("%x with the topmost bit: %x", u, got)
		}
	}
	for i := int64(0); i < 19; i++ {
		if !elem(plus(modulus(), i)).Is(Int(int(i))) {
			t.Errorf("the prime and %d is not %d", i, i)
		}
	}
}

// TestEveryBit: each but the topmost one stands where it should, and makes
// another element.
func TestEveryBit(t *testing.T) {
	alternate := new(big.Int).Quo(power2(254), whole(3))
	for _, u := range []*big.Int{whole(0), alternate} {
		for n := range 255 {
			v := new(big.Int).Xor(u, power2(n))
			holds(t, "one bit", elem(v), v)
			if elem(u).Is(elem(v)) || elem(v).Is(elem(u)) {
				t.Fatalf("%x and %x are the same", u, v)
			}
		}
	}
}

func TestInt(t *testing.T) {
	all := []int{math.MinInt, math.MinInt + 1, math.MinInt / 2, -20, -19, -18, -2, -1, 0, 1, 2, 18, 19, 20,
		1<<31 - 1, 1 << 31, 1 << 32, -1 << 31, -1 << 32, math.MaxInt / 2, math.MaxInt - 1, math.MaxInt}
	for _, k := range keys(100) {
		all = append(all, int(number(k).Int64()), -int(number(k).Int64()))
	}
	for _, n := range all {
		holds(t, "Int", Int(n), modulo(whole(int64(n))))
	}
}

// TestSums goes over all pairs of the borders and some more.
func TestSums(t *testing.T) {
	all := numbers(60)
	for _, u := range all {
		for _, v := range all {
			a, b := elem(u), elem(v)
			holds(t, "Plus", a.Plus(b), modulo(new(big.Int).Add(u, v)))
			holds(t, "Minus", a.Minus(b), modulo(new(big.Int).Sub(u, v)))
			holds(t, "Times", a.Times(b), modulo(new(big.Int).Mul(u, v)))
			if a.Is(b) != (u.Cmp(v) == 0) {
				t.Fatalf("%x is %x: %v", u, v, a.Is(b))
			}
		}
	}
}

// TestByThePrime has sums, differences and products that are by 0 and the prime:
// there it shows whether the prime is taken away once too often, or too seldom.
func TestByThePrime(t *testing.T) {
	for _, u := range numbers(100) {
		inverse := new(big.Int).ModInverse(u, modulus())
		if inverse == nil {
			continue
		}
		for i := int64(-40); i <= 40; i++ {
			w := modulo(whole(i))
			sum := elem(u).Plus(elem(modulo(new(big.Int).Sub(w, u))))
			holds(t, "sum", sum, w)
			holds(t, "difference", elem(u).Minus(elem(modulo(new(big.Int).Sub(u, w)))), w)
			holds(t, "product", elem(u).Times(elem(modulo(new(big.Int).Mul(w, inverse)))), w)
		}
	}
}

// TestSettle asks at the borders that products of chosen elements hardly reach.
func TestSettle(t *testing.T) {
	for _, u := range []*big.Int{whole(0), modulus(), power2(255), new(big.Int).Lsh(modulus(), 1), plus(power2(256), -1500)} {
		for i := int64(-1500); i <= 1500; i++ {
			v := plus(u, i)
			if v.Sign() < 0 || v.BitLen() > 256 {
				continue
			}
			for over := range 40 {
				all := new(big.Int).Add(v, new(big.Int).Lsh(whole(int64(over)), 256))
				holds(t, "settle", settle(read(text(v)), uint64(over)), modulo(all))
			}
		}
	}
}

func TestOver(t *testing.T) {
	all := numbers(20)
	for i, v := range all {
		inverse := new(big.Int).ModInverse(v, modulus())
		for j := range 20 {
			u := all[(7*i+11*j)%len(all)]
			got := elem(u).Over(elem(v))
			if v.Sign() == 0 {
				holds(t, "over 0", got, whole(0))
				continue
			}
			holds(t, "Over", got, modulo(new(big.Int).Mul(u, inverse)))
			if !got.Times(elem(v)).Is(elem(u)) {
				t.Fatalf("%x / %x times the latter is not the former", u, v)
			}
		}
	}
}

// TestOverNought: 0 comes from each way in which it can be made.
func TestOverNought(t *testing.T) {
	noughts := []Elem{{}, Int(0), elem(modulus()), Int(5).Minus(Int(5)), Int(-5).Plus(Int(5)), Int(9).Times(Elem{}), Int(9).Over(Elem{})}
	for _, z := range noughts {
		for _, u := range borders() {
			holds(t, "over 0", elem(u).Over(z), whole(0))
			holds(t, "0 over", z.Over(elem(u)), whole(0))
		}
	}
}

// root is the even one of the two, by another way.
func root(u *big.Int) (*big.Int, bool) {
	r := new(big.Int).ModSqrt(u, modulus())
	if r == nil {
		return whole(0), false
	}
	if r.Bit(0) == 1 {
		r.Sub(modulus(), r)
	}
	return r, true
}

func TestRoot(t *testing.T) {
	count := map[bool]int{}
	for _, u := range numbers(200) {
		want, ok := root(u)
		got, is := elem(u).Root()
		if is != ok {
			t.Fatalf("%x: Root tells %v", u, is)
		}
		holds(t, "Root", got, want)
		count[ok]++
	}
	if count[true] < 100 || count[false] < 100 {
		t.Error("squares and others are not tested alike:", count)
	}
}

// TestRootOfSquare takes each element's square: either it or its opposite is
// the root, whichever is even.
func TestRootOfSquare(t *testing.T) {
	for _, u := range numbers(100) {
		a := elem(u)
		want := a
		if u.Bit(0) == 1 {
			want = Int(0).Minus(a)
		}
		for _, b := range []Elem{a, Int(0).Minus(a)} {
			got, ok := b.Times(b).Root()
			if !ok || !got.Is(want) || !got.Even() {
				t.Fatalf("the root of the square of %x: %x, %v", u, got.Key(), ok)
			}
		}
	}
}

// TestNoSquare: 2 is none, so twice a square is none, but for 0.
func TestNoSquare(t *testing.T) {
	for _, u := range numbers(100) {
		a := elem(u)
		got, ok := a.Times(a).Times(Int(2)).Root()
		if ok != (u.Sign() == 0) || got != (Elem{}) {
			t.Fatalf("twice the square of %x: %x, %v", u, got.Key(), ok)
		}
	}
}

// TestAgain: what is answered hangs on the arguments alone.
func TestAgain(t *testing.T) {
	a, b := elem(power2(200)), Int(-3)
	quotient, square := a.Over(b), a.Times(a)
	r, _ := square.Root()
	for range 3 {
		Int(11).Over(Int(13))
		Int(2).Root()
		again, ok := square.Root()
		if !a.Over(b).Is(quotient) || !again.Is(r) || !ok {
			t.Fatal("another answer at the same arguments")
		}
	}
}

// P3.2

// some are elements from Of and Int, and ones that came from calls.
func some() []Elem {
	out := []Elem{Int(0), Int(1), Int(-1), Int(2), Int(math.MinInt), Int(math.MaxInt), elem(plus(power2(255), -1)), elem(power2(254)), elem(plus(power2(192), -1))}
	for _, k := range keys(6) {
		out = append(out, Of(k))
	}
	for i, a := range slices.Clone(out) {
		b := out[(4*i+3)%len(out)]
		r, _ := a.Root()
		out = append(out, a.Plus(b), a.Minus(b), a.Times(b), a.Over(b), r)
	}
	return out
}

func same(t *testing.T, rule string, a, b Elem) {
	t.Helper()
	if !a.Is(b) || !b.Is(a) || a.Key() != b.Key() || a.Even() != b.Even() {
		t.Fatalf("%s: %x and %x", rule, a.Key(), b.Key())
	}
}

func TestRulesOfOne(t *testing.T) {
	zero, one := Int(0), Int(1)
	if zero.Is(one) || one.Is(zero) {
		t.Fatal("0 is 1")
	}
	for _, a := range some() {
		same(t, "a is a", a, a)
		same(t, "its text is its own", Of(a.Key()), a)
		same(t, "a + 0", a.Plus(zero), a)
		same(t, "a - 0", a.Minus(zero), a)
		same(t, "a - a", a.Minus(a), zero)
		same(t, "a + (0 - a)", a.Plus(zero.Minus(a)), zero)
		same(t, "a 0", a.Times(zero), zero)
		same(t, "a 1", a.Times(one), a)
		same(t, "a / 1", a.Over(one), a)
		if !a.Is(zero) {
			same(t, "a / a", a.Over(a), one)
			same(t, "a (1 / a)", a.Times(one.Over(a)), one)
		}
	}
}

func TestRulesOfTwo(t *testing.T) {
	zero := Int(0)
	all := some()
	for _, a := range all {
		for _, b := range all {
			same(t, "a + b", a.Plus(b), b.Plus(a))
			same(t, "a b", a.Times(b), b.Times(a))
			same(t, "(a - b) + b", a.Minus(b).Plus(b), a)
			same(t, "a - b is a + (0 - b)", a.Minus(b), a.Plus(zero.Minus(b)))
			if !b.Is(zero) {
				same(t, "(a / b) b", a.Over(b).Times(b), a)
			}
			if a.Times(b).Is(zero) != (a.Is(zero) || b.Is(zero)) {
				t.Fatalf("%x times %x is 0", a.Key(), b.Key())
			}
		}
	}
}

func TestRulesOfThree(t *testing.T) {
	all := some()
	for _, a := range all {
		for _, b := range all {
			for i := range len(all) / 3 {
				c := all[3*i]
				same(t, "(a + b) + c", a.Plus(b).Plus(c), a.Plus(b.Plus(c)))
				same(t, "(a b) c", a.Times(b).Times(c), a.Times(b.Times(c)))
				same(t, "a (b + c)", a.Times(b.Plus(c)), a.Times(b).Plus(a.Times(c)))
			}
		}
	}
}
