package curve

import (
	"crypto/ed25519"
	"crypto/sha512"
	"encoding/hex"
	"fmt"
	"math/big"
	"slices"
	"strings"
	"testing"

	"cachet/api"
	"cachet/field"
)

func whole(n int64) *big.Int { return big.NewInt(n) }

func power2(n int) *big.Int { return new(big.Int).Lsh(whole(1), uint(n)) }

func plus(u *big.Int, n int64) *big.Int { return new(big.Int).Add(u, whole(n)) }

func many64(u *big.Int, n int64) *big.Int { return new(big.Int).Mul(u, whole(n)) }

func prime() *big.Int { return plus(power2(255), -19) }

// theOrder is the generator's, as the chapter writes it.
func theOrder() *big.Int {
	rest, _ := new(big.Int).SetString("27742317777372353535851937790883648493", 10)
	return rest.Add(rest, power2(252))
}

// number is what bytes tell, the lowest first.
func number(b []byte) *big.Int {
	high := slices.Clone(b)
	slices.Reverse(high)
	return new(big.Int).SetBytes(high)
}

// bytesOf are a number's, the lowest first, as many as are asked for.
func bytesOf(u *big.Int, n int) []byte {
	b := u.FillBytes(make([]byte, n))
	slices.Reverse(b)
	return b
}

func text(u *big.Int) api.Key { return api.Key(bytesOf(u, 32)) }

func odd(k api.Key) api.Key {
	k[31] |= 0x80
	return k
}

func unhex(t *testing.T, s string) api.Key {
	t.Helper()
	b, err := hex.DecodeString(s)
	if err != nil || len(b) != 32 {
		t.Fatal(s)
	}
	return api.Key(b)
}

// draw is rows of bytes without an order.
func draw() func(n int) []byte {
	x := uint64(4)
	return func(n int) []byte {
		b := make([]byte, n)
		for i := range b {
			x = x*6364136223846793005 + 1442695040888963407
			b[i] = byte(x >> 56)
		}
		return b
	}
}

// pair is a point's two numbers, with which all is reckoned here by the
// chapter's own sentences.
type pair struct{ x, y *big.Int }

func modulo(u *big.Int) *big.Int { return new(big.Int).Mod(u, prime()) }

func product(of ...*big.Int) *big.Int {
	out := whole(1)
	for _, u := range of {
		out = modulo(out.Mul(out, u))
	}
	return out
}

func over(u, v *big.Int) *big.Int {
	return product(u, new(big.Int).ModInverse(modulo(v), prime()))
}

func added(u, v *big.Int) *big.Int { return modulo(new(big.Int).Add(u, v)) }

func less(u, v *big.Int) *big.Int { return modulo(new(big.Int).Sub(u, v)) }

func dNumber() *big.Int { return over(whole(-121665), whole(121666)) }

func (p pair) plus(q pair) pair {
	d := product(dNumber(), p.x, q.x, p.y, q.y)
	return pair{
		over(added(product(p.x, q.y), product(p.y, q.x)), added(whole(1), d)),
		over(added(product(p.y, q.y), product(p.x, q.x)), less(whole(1), d)),
	}
}

func (p pair) many(n *big.Int) pair {
	sum := pair{whole(0), whole(1)}
	for i := n.BitLen() - 1; i >= 0; i-- {
		sum = sum.plus(sum)
		if n.Bit(i) == 1 {
			sum = sum.plus(p)
		}
	}
	return sum
}

func (p pair) opposite() pair { return pair{less(whole(0), p.x), p.y} }

func (p pair) text() api.Key {
	if p.x.Bit(0) == 1 {
		return odd(text(p.y))
	}
	return text(p.y)
}

// onCurve asks the curve's sentence.
func (p pair) onCurve() bool {
	xx, yy := product(p.x, p.x), product(p.y, p.y)
	return less(yy, xx).Cmp(added(whole(1), product(dNumber(), xx, yy))) == 0
}

// pairOf reads a text by the chapter's sentence about Of.
func pairOf(k api.Key) (pair, bool) {
	top := k[31] >> 7
	k[31] &= 0x7f
	y := number(k[:])
	if y.Cmp(prime()) >= 0 {
		return pair{}, false
	}
	yy := product(y, y)
	x := new(big.Int).ModSqrt(over(less(yy, whole(1)), added(whole(1), product(dNumber(), yy))), prime())
	if x == nil || x.Sign() == 0 && top == 1 {
		return pair{}, false
	}
	if x.Bit(0) != uint(top) {
		x = less(whole(0), x)
	}
	return pair{x, y}, true
}

// holds asks whether a point is that pair.
func holds(t *testing.T, what string, got Point, want pair) {
	t.Helper()
	if !want.onCurve() {
		t.Fatalf("%s: %x, %x is no point", what, want.x, want.y)
	}
	if got.Key() != want.text() {
		t.Fatalf("%s: %x, want %x", what, got.Key(), want.text())
	}
	p, ok := Of(want.text())
	if !ok || !p.Is(got) || !got.Is(p) {
		t.Fatalf("%s: is not the point of %x", what, want.text())
	}
	if x := p.x.Key(); number(x[:]).Cmp(want.x) != 0 {
		t.Fatalf("%s: x is %x, want %x", what, x, want.x)
	}
}

// small are the texts of the points whose order is 1, 2, 4 or 8.
func small(t *testing.T) map[int][]api.Key {
	t.Helper()
	eighth := unhex(t, "26e8958fc2b227b045c3f489f2ef98f0d5dfac05d3c63339b13802886d53fc05")
	another := unhex(t, "c7176a703d4dd84fba3c0b760d10670f2a2053fa2c39ccc64ec7fd7792ac037a")
	return map[int][]api.Key{
		1: {{1}},
		2: {text(plus(prime(), -1))},
		4: {{}, odd(api.Key{})},
		8: {eighth, odd(eighth), another, odd(another)},
	}
}

func pointAt(t *testing.T, k api.Key) Point {
	t.Helper()
	p, ok := Of(k)
	if !ok {
		t.Fatalf("no point: %x", k)
	}
	return p
}

// pairAt is the pair of a point's text.
func pairAt(t *testing.T, p Point) pair {
	t.Helper()
	u, ok := pairOf(p.Key())
	if !ok {
		t.Fatalf("no pair: %x", p.Key())
	}
	return u
}

// points are the origin, the generator, all of small order, points from texts
// without an order (most are no multiple of the generator), and some from calls.
func points(t *testing.T) []Point {
	t.Helper()
	g := Generator()
	out := []Point{{}, g, Point{}.Minus(g), g.Plus(g), g.Many(text(plus(theOrder(), -2)))}
	eighth := Point{}
	for _, n := range []int{1, 2, 4, 8} {
		for _, k := range small(t)[n] {
			eighth = pointAt(t, k)
			out = append(out, eighth)
		}
	}
	out = append(out, g.Plus(eighth), g.Minus(eighth).Many(api.Key{5}), eighth.Many(api.Key{8}))
	random := draw()
	for found := 0; found < 5; {
		if p, ok := Of(api.Key(random(32))); ok {
			out = append(out, p)
			found++
		}
	}
	return out
}

// P4.1

func TestGenerator(t *testing.T) {
	k := Generator().Key()
	if got := hex.EncodeToString(k[:]); got != "58"+strings.Repeat("66", 31) {
		t.Error(got)
	}
	g, ok := pairOf(text(over(whole(4), whole(5))))
	if !ok || g.x.Bit(0) != 0 {
		t.Fatal(g)
	}
	holds(t, "the generator", Generator(), g)
}

// TestKnown holds answers against ones that are written out, so that not all
// tests lean on what is reckoned here.
func TestKnown(t *testing.T) {
	g := Generator()
	for n, want := range map[byte]string{
		2: "c9a3f86aae465f0e56513864510f3997561fa2c9e85ea21dc2292309f3cd6022",
		3: "d4b4f5784868c3020403246717ec169ff79e26608ea126a1ab69ee77d1b16712",
		4: "2f1132ca61ab38dff00f2fea3228f24c6c71d58085b80e47e19515cb27e8d047",
	} {
		if got := g.Many(api.Key{n}).Key(); got != unhex(t, want) {
			t.Errorf("%d times: %x", n, got)
		}
	}
}

// TestLibrary holds multiples of the generator against public keys as the
// library of the language makes them.
func TestLibrary(t *testing.T) {
	random := draw()
	for range 20 {
		seed := random(32)
		digest := sha512.Sum512(seed)
		n := api.Key(digest[:32])
		n[0] &= 0xf8
		n[31] = n[31]&0x3f | 0x40
		want := ed25519.NewKeyFromSeed(seed).Public().(ed25519.PublicKey)
		if got := Generator().Many(n).Key(); got != api.Key(want) {
			t.Errorf("%x: %x, want %x", n, got, want)
		}
	}
}

func TestCurveNumber(t *testing.T) {
	if !curveNumber().Is(field.Int(-121665).Over(field.Int(121666))) {
		t.Error(curveNumber().Key())
	}
}

func refused(t *testing.T, what string, k api.Key) {
	t.Helper()
	if p, ok := Of(k); ok || p != (Point{}) || !p.Is(Point{}) {
		t.Errorf("%s: %x is taken", what, k)
	}
}

func TestOfBeyondThePrime(t *testing.T) {
	for u := prime(); u.BitLen() < 256; u = plus(u, 1) {
		refused(t, "the prime or more", text(u))
		refused(t, "the prime or more", odd(text(u)))
	}
	if _, ok := Of(text(plus(prime(), -1))); !ok {
		t.Error("the prime less 1 is refused")
	}
}

func TestOfWithoutX(t *testing.T) {
	for _, y := range []int64{2, 7, 8, 11, 12, 13} {
		refused(t, "no x goes with y", text(whole(y)))
		refused(t, "no x goes with y", odd(text(whole(y))))
		refused(t, "no x goes with y", text(plus(prime(), -y)))
	}
}

func TestOfOddNought(t *testing.T) {
	one, last := text(whole(1)), text(plus(prime(), -1))
	for _, k := range []api.Key{one, last} {
		refused(t, "x is 0 and the topmost bit 1", odd(k))
		p, ok := Of(k)
		if !ok || !p.x.Is(field.Elem{}) || p.Key() != k {
			t.Errorf("%x is refused", k)
		}
	}
	if pointAt(t, last).Is(Point{}) {
		t.Error("0, -1 is the origin")
	}
}

// TestOf goes over texts by 0, by the prime and without an order, with both
// topmost bits.
func TestOf(t *testing.T) {
	var texts []api.Key
	for i := int64(0); i < 60; i++ {
		texts = append(texts, text(whole(i)), text(plus(prime(), -1-i)))
	}
	random := draw()
	for range 200 {
		k := api.Key(random(32))
		k[31] &= 0x7f
		texts = append(texts, k)
	}
	taken := 0
	for _, k := range texts {
		for _, k := range []api.Key{k, odd(k)} {
			want, ok := pairOf(k)
			if !ok {
				refused(t, "Of", k)
				continue
			}
			taken++
			p := pointAt(t, k)
			holds(t, "Of", p, want)
			if p.Key() != k {
				t.Fatalf("%x has the text %x", k, p.Key())
			}
		}
	}
	if taken < 100 || taken > len(texts)*2-100 {
		t.Error(taken, "of", len(texts)*2)
	}
}

// TestOddAndEven: the topmost bit parts a point from its opposite.
func TestOddAndEven(t *testing.T) {
	k := Generator().Key()
	p, q := pointAt(t, k), pointAt(t, odd(k))
	if !p.x.Even() || q.x.Even() || p.Is(q) || q.Is(p) {
		t.Error("both are the same")
	}
	if !p.Plus(q).Is(Point{}) || !q.Is(Point{}.Minus(p)) {
		t.Error("they are no opposites")
	}
}

func TestZeroPoint(t *testing.T) {
	var zero Point
	if zero.Key() != (api.Key{1}) {
		t.Error(zero.Key())
	}
	holds(t, "the zero Point", zero, pair{whole(0), whole(1)})
	g := Generator()
	for _, p := range []Point{zero.Plus(zero), zero.Minus(zero), g.Minus(g), g.Many(api.Key{}), zero.Many(text(plus(power2(256), -1)))} {
		if !p.Is(zero) || !zero.Is(p) || p != zero {
			t.Errorf("%x", p.Key())
		}
	}
	if !zero.Plus(g).Is(g) || !g.Plus(zero).Is(g) || !g.Minus(zero).Is(g) || zero.Is(g) || g.Is(zero) {
		t.Error("the generator and the origin")
	}
}

func TestPlusAndMinus(t *testing.T) {
	all := points(t)
	for i, p := range all {
		u := pairAt(t, p)
		holds(t, "plus itself", p.Plus(p), u.plus(u))
		holds(t, "minus its opposite", p.Minus(Point{}.Minus(p)), u.plus(u))
		holds(t, "opposite", Point{}.Minus(p), u.opposite())
		if !p.Minus(p).Is(Point{}) || !p.Plus(Point{}.Minus(p)).Is(Point{}) {
			t.Error(i, "with its opposite")
		}
		for j, q := range all {
			what, v := fmt.Sprint(i, ", ", j), pairAt(t, q)
			holds(t, "plus "+what, p.Plus(q), u.plus(v))
			holds(t, "minus "+what, p.Minus(q), u.plus(v.opposite()))
		}
	}
}

// TestIs: each point is the same as itself alone.
func TestIs(t *testing.T) {
	all := points(t)
	for i, p := range all {
		for j, q := range all {
			if same := p.Key() == q.Key(); p.Is(q) != same || q.Is(p) != same {
				t.Error(i, j)
			}
		}
	}
}

// TestManySmall adds one by one.
func TestManySmall(t *testing.T) {
	for i, p := range points(t) {
		var sum Point
		for n := range 40 {
			if !p.Many(api.Key{byte(n)}).Is(sum) {
				t.Fatal(i, n)
			}
			sum = sum.Plus(p)
		}
	}
}

// counts are numbers of 32 bytes: 0, 1, by the order and its multiples, by the
// borders of bytes and words, all ones, and some without an order.
func counts() []*big.Int {
	out := []*big.Int{whole(0), whole(1), whole(2), plus(power2(256), -1), power2(255), plus(power2(255), -1)}
	for _, n := range []int64{1, 2, 4, 7, 8, 15} {
		for i := int64(-1); i < 2; i++ {
			out = append(out, plus(many64(theOrder(), n), i))
		}
	}
	for _, n := range []int{8, 63, 64, 65, 128, 192, 248, 252, 253} {
		out = append(out, power2(n))
	}
	random := draw()
	for range 4 {
		out = append(out, number(random(32)))
	}
	return out
}

func TestMany(t *testing.T) {
	random := draw()
	p, ok := Of(api.Key(random(32)))
	for !ok {
		p, ok = Of(api.Key(random(32)))
	}
	eighth := pointAt(t, small(t)[8][0])
	for i, p := range []Point{Generator(), p, Generator().Plus(eighth)} {
		u := pairAt(t, p)
		for _, n := range counts() {
			holds(t, fmt.Sprintf("%x times %d", n, i), p.Many(text(n)), u.many(n))
		}
	}
}

func TestManyByTheOrder(t *testing.T) {
	g, order := Generator(), theOrder()
	if !g.Many(text(order)).Is(Point{}) {
		t.Error("the order")
	}
	if !g.Many(text(plus(order, -1))).Is(Point{}.Minus(g)) {
		t.Error("the order less 1")
	}
	if !g.Many(text(plus(order, 1))).Is(g) {
		t.Error("the order and 1")
	}
	if !g.Many(api.Key{1}).Is(g) || !g.Many(api.Key{}).Is(Point{}) {
		t.Error("1 or 0")
	}
}

// TestSmallOrders: a point of small order goes round; with the generator it is no
// multiple of that, and the order doesn't bring it to the origin.
func TestSmallOrders(t *testing.T) {
	for n, texts := range small(t) {
		for _, k := range texts {
			p := pointAt(t, k)
			for i := 1; i <= n; i++ {
				if p.Many(api.Key{byte(i)}).Is(Point{}) != (i == n) {
					t.Errorf("%d times %x", i, k)
				}
			}
			for _, u := range counts() {
				rest := new(big.Int).Mod(u, whole(int64(n)))
				if !p.Many(text(u)).Is(p.Many(text(rest))) {
					t.Errorf("%x times %x", u, k)
				}
			}
			mixed := Generator().Plus(p)
			if mixed.Many(text(theOrder())).Is(Point{}) != (n == 1) {
				t.Errorf("the generator and %x", k)
			}
			if !mixed.Many(text(many64(theOrder(), 8))).Is(Point{}) {
				t.Errorf("eight times the order, the generator and %x", k)
			}
		}
	}
}

// isResidue asks whether a text is that of a number's residue.
func isResidue(t *testing.T, what string, got api.Key, of *big.Int) {
	t.Helper()
	if want := text(new(big.Int).Mod(of, theOrder())); got != want {
		t.Fatalf("%s: of %x: %x, want %x", what, of, got, want)
	}
	if !Least(got) {
		t.Fatalf("%s: of %x: is no residue", what, of)
	}
}

func TestResidueOfAllLengths(t *testing.T) {
	random := draw()
	if got, ok := Residue(nil); !ok || got != (api.Key{}) {
		t.Error("nil:", got, ok)
	}
	for n := range 65 {
		ones := bytesOf(plus(power2(8*n), -1), n)
		for i, b := range [][]byte{random(n), random(n), ones, make([]byte, n)} {
			got, ok := Residue(b)
			if !ok {
				t.Fatal(n, i)
			}
			isResidue(t, fmt.Sprint(n, " bytes"), got, number(b))
		}
	}
	for _, n := range []int{65, 66, 96, 128, 1000} {
		for _, b := range [][]byte{random(n), make([]byte, n), append([]byte{1}, make([]byte, n-1)...)} {
			if got, ok := Residue(b); ok || got != (api.Key{}) {
				t.Error(n, got, ok)
			}
		}
	}
}

// TestResidueByTheOrder goes over numbers by multiples of the order, up to the
// greatest of 64 bytes.
func TestResidueByTheOrder(t *testing.T) {
	most := plus(power2(512), -1)
	times := []*big.Int{new(big.Int).Div(most, theOrder())}
	for _, n := range []int{0, 1, 2, 3, 4, 127, 128, 252, 253, 254, 258} {
		times = append(times, power2(n), plus(power2(n), -1), plus(power2(n), 1))
	}
	for _, u := range times {
		for i := int64(-2); i < 3; i++ {
			v := plus(new(big.Int).Mul(u, theOrder()), i)
			if v.Sign() < 0 || v.Cmp(most) > 0 {
				continue
			}
			got, ok := Residue(bytesOf(v, 64))
			if !ok {
				t.Fatal(v)
			}
			isResidue(t, "64 bytes", got, v)
			if v.BitLen() <= 256 {
				short, ok := Residue(bytesOf(v, 32))
				if !ok || short != got {
					t.Fatalf("%x: of 32 bytes %x, of 64 %x", v, short, got)
				}
			}
		}
	}
}

// TestResidueChangesNothing: the text stays as it was, and its spare room.
func TestResidueChangesNothing(t *testing.T) {
	whole := draw()(100)
	was := slices.Clone(whole)
	Residue(whole[:40])
	Residue(whole[:70])
	if !slices.Equal(whole, was) {
		t.Error("the text is changed")
	}
}

func TestTimes(t *testing.T) {
	random := draw()
	all := []*big.Int{whole(0), whole(1), whole(2), plus(power2(256), -1), power2(255), number(random(32)), plus(theOrder(), -2)}
	for i := int64(-1); i < 2; i++ {
		all = append(all, plus(theOrder(), i), plus(many64(theOrder(), 15), i))
	}
	for _, a := range all {
		for _, b := range all {
			for _, c := range all {
				want := new(big.Int).Mul(a, b)
				isResidue(t, "Times", Times(text(a), text(b), text(c)), want.Add(want, c))
			}
		}
	}
	for range 200 {
		a, b, c := number(random(32)), number(random(32)), number(random(32))
		want := new(big.Int).Mul(a, b)
		isResidue(t, "Times", Times(text(a), text(b), text(c)), want.Add(want, c))
	}
}

func TestLeast(t *testing.T) {
	for _, u := range append(counts(), plus(theOrder(), 19), plus(theOrder(), -19), new(big.Int).Add(theOrder(), power2(64)), new(big.Int).Sub(theOrder(), power2(64))) {
		if Least(text(u)) != (u.Cmp(theOrder()) < 0) {
			t.Errorf("%x", u)
		}
	}
	if !Least(api.Key{}) || !Least(text(plus(theOrder(), -1))) {
		t.Error("0 or the order less 1 is no residue")
	}
	if Least(text(theOrder())) || Least(text(plus(power2(256), -1))) {
		t.Error("the order or all ones is a residue")
	}
	random := draw()
	for range 100 {
		k := api.Key(random(32))
		k[31] &= 0x1f
		if Least(k) != (number(k[:]).Cmp(theOrder()) < 0) {
			t.Errorf("%x", k)
		}
	}
}

// TestFigures: they come from the highest on, end when they are left, and stay
// what they were.
func TestFigures(t *testing.T) {
	b := []byte{0x81, 0x40}
	all := figures(b)
	b[0], b[1] = 0xff, 0xff
	if got := slices.Collect(all); !slices.Equal(got, []byte{0, 1, 0, 0, 0, 0, 0, 0, 1, 0, 0, 0, 0, 0, 0, 1}) {
		t.Error(got)
	}
	for range all {
		break
	}
	for range figures(nil) {
		t.Error("a figure of nothing")
	}
}

// P4.2

func TestGroup(t *testing.T) {
	all := points(t)
	for i, p := range all {
		if !p.Plus(Point{}).Is(p) || !(Point{}).Plus(p).Is(p) {
			t.Error(i, "with the origin")
		}
		back := Point{}.Minus(p)
		if !p.Plus(back).Is(Point{}) || !back.Plus(p).Is(Point{}) || !(Point{}).Minus(back).Is(p) {
			t.Error(i, "with its opposite")
		}
		for j, q := range all {
			sum := p.Plus(q)
			if !pairAt(t, sum).onCurve() || !pointAt(t, sum.Key()).Is(sum) {
				t.Error(i, j, "the sum is no point")
			}
			if !sum.Is(q.Plus(p)) {
				t.Error(i, j, "the sum hangs on the order")
			}
			if !sum.Minus(q).Is(p) || !p.Minus(q).Plus(q).Is(p) {
				t.Error(i, j, "the difference")
			}
			for k, r := range all {
				if !sum.Plus(r).Is(p.Plus(q.Plus(r))) {
					t.Error(i, j, k, "the sum hangs on how it is parted")
				}
			}
		}
	}
}

// TestGroupOfMultiples: multiples are added as their numbers are, and residues
// are enough for the generator's.
func TestGroupOfMultiples(t *testing.T) {
	random := draw()
	g := Generator()
	for range 10 {
		a, b, c := api.Key(random(32)), api.Key(random(32)), api.Key(random(32))
		short, _ := Residue(a[:])
		if !g.Many(a).Is(g.Many(short)) {
			t.Error("the residue")
		}
		sum := g.Many(b).Many(a).Plus(g.Many(c))
		if !sum.Is(g.Many(Times(a, b, c))) {
			t.Error("a b + c")
		}
	}
	for i, p := range points(t) {
		a, b := random(16), random(16)
		sum := text(new(big.Int).Add(number(a), number(b)))
		u, v := text(number(a)), text(number(b))
		if !p.Many(u).Plus(p.Many(v)).Is(p.Many(sum)) {
			t.Error(i, "a + b")
		}
		if !p.Many(u).Many(v).Is(p.Many(text(new(big.Int).Mul(number(a), number(b))))) {
			t.Error(i, "a b")
		}
	}
}

func TestOrderOfTheGenerator(t *testing.T) {
	if !theOrder().ProbablyPrime(20) {
		t.Fatal("the order is no prime")
	}
	if !Generator().Many(text(theOrder())).Is(Point{}) {
		t.Error("as many times as the order")
	}
	// The order is a prime: no smaller number brings what isn't the origin there.
	if Generator().Is(Point{}) {
		t.Error("the generator is the origin")
	}
	number := order().key()
	if number != text(theOrder()) {
		t.Error(number)
	}
}
