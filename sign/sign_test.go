package sign

import (
	"bytes"
	"crypto/ed25519"
	"crypto/sha512"
	"encoding/hex"
	"math/big"
	"slices"
	"testing"

	"cachet/api"
	"cachet/curve"
)

func unhex(t *testing.T, s string) []byte {
	t.Helper()
	b, err := hex.DecodeString(s)
	if err != nil {
		t.Fatal(s)
	}
	return b
}

// draw is rows of bytes without an order.
func draw() func(n int) []byte {
	x := uint64(5)
	return func(n int) []byte {
		b := make([]byte, n)
		for i := range b {
			x = x*6364136223846793005 + 1442695040888963407
			b[i] = byte(x >> 56)
		}
		return b
	}
}

func whole(n int64) *big.Int { return big.NewInt(n) }

func plus(u *big.Int, n int64) *big.Int { return new(big.Int).Add(u, whole(n)) }

func power2(n int) *big.Int { return new(big.Int).Lsh(whole(1), uint(n)) }

func prime() *big.Int { return plus(power2(255), -19) }

// order is the generator's, as chapter 4 writes it.
func order() *big.Int {
	rest, _ := new(big.Int).SetString("27742317777372353535851937790883648493", 10)
	return rest.Add(rest, power2(252))
}

// number is what bytes tell, the lowest first.
func number(b []byte) *big.Int {
	high := slices.Clone(b)
	slices.Reverse(high)
	return new(big.Int).SetBytes(high)
}

// text is a number's 32 bytes, the lowest first.
func text(u *big.Int) api.Key {
	b := u.FillBytes(make([]byte, 32))
	slices.Reverse(b)
	return api.Key(b)
}

func odd(k api.Key) api.Key {
	k[31] |= 0x80
	return k
}

// opposite is the text of a point's opposite, where x isn't 0.
func opposite(k api.Key) api.Key {
	k[31] ^= 0x80
	return k
}

func ones() api.Key { return api.Key(bytes.Repeat([]byte{0xff}, 32)) }

// hash is the residue that the chapter calls h, reckoned without the layers below.
func hash(first, public api.Key, text []byte) *big.Int {
	digest := sha512.Sum512(slices.Concat(first[:], public[:], text))
	return new(big.Int).Mod(number(digest[:]), order())
}

func pair(first, second api.Key) api.Wide {
	return api.Wide(slices.Concat(first[:], second[:]))
}

func firstOf(sig api.Wide) api.Key { return api.Key(sig[:32]) }

func secondOf(sig api.Wide) api.Key { return api.Key(sig[32:]) }

// known says what the library of the language says; it goes by the chapter, but
// that it takes keys that are no point's text.
func known(public api.Key, sig api.Wide, text []byte) bool {
	return ed25519.Verify(public[:], text, sig[:])
}

func right(t *testing.T, what string, public api.Key, sig api.Wide, text []byte) {
	t.Helper()
	if !known(public, sig, text) {
		t.Fatalf("%s: by %x of %x: %x isn't right at all", what, public, text, sig)
	}
	if !Right(public, sig, text) {
		t.Errorf("%s: by %x of %x: %x is refused", what, public, text, sig)
	}
}

func wrong(t *testing.T, what string, public api.Key, sig api.Wide, text []byte) {
	t.Helper()
	if Right(public, sig, text) {
		t.Errorf("%s: by %x of %x: %x is right", what, public, text, sig)
	}
}

// seeds are noughts, all ff, single bits, and some without an order.
func seeds() []api.Key {
	out := []api.Key{{}, ones(), {1}, {31: 0x80}}
	random := draw()
	for range 8 {
		out = append(out, api.Key(random(32)))
	}
	return out
}

// texts are the empty one, single bytes, lengths by a digest's pieces and some
// behind that.
func texts() [][]byte {
	out := [][]byte{nil, {}, {0}, {0xff}}
	random := draw()
	for _, n := range []int{2, 31, 32, 33, 47, 48, 63, 64, 65, 79, 80, 111, 112, 127, 128, 129, 1000} {
		out = append(out, random(n))
	}
	return out
}

// signed is a key, a text and a signature of it that is right.
func signed(t *testing.T) (public api.Key, sig api.Wide, text []byte) {
	t.Helper()
	text = []byte("what was made, and by whom")
	seed := seeds()[5]
	public, sig = Public(seed), Sign(seed, text)
	right(t, "signed", public, sig, text)
	return public, sig, text
}

func point(t *testing.T, k api.Key) curve.Point {
	t.Helper()
	p, ok := curve.Of(k)
	if !ok {
		t.Fatalf("no point: %x", k)
	}
	return p
}

// P5.1

func TestExample(t *testing.T) {
	public := Public(api.Key{})
	if got := hex.EncodeToString(public[:4]); got != "3b6a27bc" {
		t.Error(got)
	}
}

// TestWrittenOut holds answers against ones that are written out, so that not
// all tests lean on the library.
func TestWrittenOut(t *testing.T) {
	for _, c := range []struct{ seed, public, text, sig string }{
		{
			"9d61b19deffd5a60ba844af492ec2cc44449c5697b326919703bac031cae7f60",
			"d75a980182b10ab7d54bfed3c964073a0ee172f3daa62325af021a68f707511a",
			"",
			"e5564300c360ac729086e2cc806e828a84877f1eb8e5d974d873e065224901555fb8821590a33bacc61e39701cf9b46bd25bf5f0595bbe24655141438e7a100b",
		},
		{
			"4ccd089b28ff96da9db6c346ec114e0f5b8a319f35aba624da8cf6ed4fb8a6fb",
			"3d4017c3e843895a92b70aa74d1b7ebc9c982ccf2ec4968cc0cd55f12af4660c",
			"72",
			"92a009a9f0d4cab8720e820b5f642540a2b27b5416503f8fb3762223ebdb69da085ac1e43e15996e458f3613d0f11d8c387b2eaeb4302aeeb00d291612bb0c00",
		},
		{
			"c5aa8df43f9f837bedb7442f31dcb7b166d38535076f094b85ce3a2e0b4458f7",
			"fc51cd8e6218a1a38da47ed00230f0580816ed13ba3303ac5deb911548908025",
			"af82",
			"6291d657deec24024827e69c3abe01a30ce548a284743a445e3680d7db5ac3ac18ff9b538d16f290ae67f760984dc6594a7c15e9716ed28dc027beceea1ec40a",
		},
	} {
		seed, public := api.Key(unhex(t, c.seed)), api.Key(unhex(t, c.public))
		text, sig := unhex(t, c.text), api.Wide(unhex(t, c.sig))
		if got := Public(seed); got != public {
			t.Errorf("public: %x", got)
		}
		if got := Sign(seed, text); got != sig {
			t.Errorf("signature: %x", got)
		}
		if !Right(public, sig, text) {
			t.Errorf("%x is refused", sig)
		}
	}
}

func TestPublic(t *testing.T) {
	for _, seed := range seeds() {
		want := ed25519.NewKeyFromSeed(seed[:]).Public().(ed25519.PublicKey)
		if got := Public(seed); got != api.Key(want) {
			t.Errorf("%x: %x, want %x", seed, got, want)
		}
	}
}

func TestSign(t *testing.T) {
	for _, seed := range seeds() {
		private := ed25519.NewKeyFromSeed(seed[:])
		for _, text := range texts() {
			want := api.Wide(ed25519.Sign(private, text))
			if got := Sign(seed, text); got != want {
				t.Errorf("%x of %x: %x, want %x", seed, text, got, want)
			}
			if !curve.Least(secondOf(want)) {
				t.Errorf("%x of %x: the second half is no residue", seed, text)
			}
		}
	}
}

// parted are ways to part a text: in one, with nothing ahead and behind, at
// every place, and byte by byte with nothing between.
func parted(text []byte) [][][]byte {
	out := [][][]byte{{text}, {nil, text}, {text, {}}, {{}, nil, text, nil, {}}}
	for i := range len(text) + 1 {
		out = append(out, [][]byte{text[:i], text[i:]}, [][]byte{text[:i], nil, text[i:]})
	}
	var single [][]byte
	for i := range text {
		single = append(single, text[i:i+1], nil)
	}
	return append(out, single)
}

func TestParted(t *testing.T) {
	seed := seeds()[4]
	public := Public(seed)
	for _, text := range [][]byte{{7}, []byte("parted")} {
		sig := Sign(seed, text)
		right(t, "in one", public, sig, text)
		for i, parts := range parted(text) {
			if got := Sign(seed, parts...); got != sig {
				t.Errorf("%d: %x, want %x", i, got, sig)
			}
			if !Right(public, sig, parts...) {
				t.Errorf("%d: is refused", i)
			}
			if Right(public, sig, append(slices.Clone(parts), []byte{0})...) {
				t.Errorf("%d: is right with one byte more", i)
			}
		}
	}
}

func TestNoParts(t *testing.T) {
	for _, seed := range seeds()[:3] {
		public, sig := Public(seed), Sign(seed)
		if want := ed25519.Sign(ed25519.NewKeyFromSeed(seed[:]), nil); sig != api.Wide(want) {
			t.Errorf("%x: %x, want %x", seed, sig, want)
		}
		if !Right(public, sig) {
			t.Errorf("%x: no parts are refused", seed)
		}
		for i, parts := range [][][]byte{nil, {}, {nil}, {{}}, {nil, {}, nil}} {
			if Sign(seed, parts...) != sig || !Right(public, sig, parts...) {
				t.Errorf("%x: %d", seed, i)
			}
		}
		if Right(public, sig, []byte{0}) {
			t.Errorf("%x: one nought is the same as nothing", seed)
		}
	}
}

// small are the texts of points whose order is 1, 2, 4 or 8, by their order.
func small(t *testing.T) map[int][]api.Key {
	t.Helper()
	eighth := api.Key(unhex(t, "26e8958fc2b227b045c3f489f2ef98f0d5dfac05d3c63339b13802886d53fc05"))
	another := api.Key(unhex(t, "c7176a703d4dd84fba3c0b760d10670f2a2053fa2c39ccc64ec7fd7792ac037a"))
	return map[int][]api.Key{
		1: {{1}},
		2: {text(plus(prime(), -1))},
		4: {{}, odd(api.Key{})},
		8: {eighth, odd(eighth), another, odd(another)},
	}
}

// mixed is a public key whose point is the generator, secret times, and a small
// one.
type mixed struct {
	secret *big.Int
	small  curve.Point
}

func (m mixed) public() api.Key {
	return curve.Generator().Many(text(m.secret)).Plus(m.small).Key()
}

// signed is a signature of a text, from whose first half the small one was taken
// off so often. It is right, if h brings the small one back just as often: then
// fits is true. Otherwise it is right only for one who takes points for the same
// that differ by a small one.
func (m mixed) signed(r int64, often byte, of []byte) (sig api.Wide, fits bool) {
	off := m.small.Many(api.Key{often})
	first := curve.Generator().Many(text(whole(r))).Minus(off).Key()
	h := hash(first, m.public(), of)
	s := new(big.Int).Mul(h, m.secret)
	return pair(first, text(s.Mod(plus(s, r), order()))), m.small.Many(text(h)).Is(off)
}

// asks holds both kinds of signatures against Right; a small one of order n.
func (m mixed) asks(t *testing.T, n int, of []byte) {
	t.Helper()
	found, spoilt := 0, 0
	for r := int64(1); r < 100 && (found < 2 || n > 1 && spoilt < 2); r++ {
		sig, fits := m.signed(r, byte(int(r)%n), of)
		if fits {
			found++
			right(t, "it fits", m.public(), sig, of)
		} else {
			spoilt++
			wrong(t, "it doesn't fit", m.public(), sig, of)
		}
	}
	if found == 0 || n > 1 && spoilt == 0 {
		t.Errorf("%x: %d fit, %d don't", m.public(), found, spoilt)
	}
}

// TestOrigin: by the origin's key each text has a signature that is right, for
// whatever h is, nothing is taken off.
func TestOrigin(t *testing.T) {
	random := draw()
	origin := api.Key{1}
	for _, text := range [][]byte{nil, {5}, random(100)} {
		for _, n := range []api.Key{{}, {1}, {2}, textOfResidue(random(64))} {
			first := curve.Generator().Many(n).Key()
			right(t, "the origin", origin, pair(first, n), text)
			n[0] ^= 1
			wrong(t, "the origin", origin, pair(first, n), text)
		}
	}
}

// textOfResidue is that of the residue of bytes.
func textOfResidue(b []byte) api.Key {
	return text(new(big.Int).Mod(number(b), order()))
}

func TestSmallOrders(t *testing.T) {
	for n, keys := range small(t) {
		for _, k := range keys {
			m := mixed{whole(0), point(t, k)}
			if m.public() != k {
				t.Fatalf("%x is %x", k, m.public())
			}
			m.asks(t, n, nil)
			m.asks(t, n, []byte("small"))
		}
	}
}

// TestMixed: a key that is no multiple of the generator is a point's text too.
func TestMixed(t *testing.T) {
	random := draw()
	for n, keys := range small(t) {
		for _, k := range keys {
			secret := new(big.Int).Mod(number(random(32)), order())
			mixed{secret, point(t, k)}.asks(t, n, random(20))
		}
	}
}

// noPoint asks that nothing is right by a key that is no point's text, not even
// what would be so, if it were taken for the origin, or for the point of the
// text's residue.
func noPoint(t *testing.T, what string, public api.Key) {
	t.Helper()
	if _, ok := curve.Of(public); ok {
		t.Fatalf("%s: %x is a point's", what, public)
	}
	for r := range byte(20) {
		first := curve.Generator().Many(api.Key{r}).Key()
		wrong(t, what, public, pair(first, api.Key{r}), []byte("no point"))
	}
	_, sig, text := signed(t)
	wrong(t, what, public, sig, text)
	wrong(t, what, public, api.Wide{}, nil)
}

func TestKeyBeyondThePrime(t *testing.T) {
	for u := prime(); u.BitLen() < 256; u = plus(u, 1) {
		noPoint(t, "not below the prime", text(u))
		noPoint(t, "not below the prime", odd(text(u)))
	}
	// What is taken by the library, as the origin's other texts.
	beyond := text(plus(prime(), 1))
	sig := pair(curve.Generator().Key(), api.Key{1})
	if !known(beyond, sig, nil) {
		t.Fatal("the library has become strict")
	}
	wrong(t, "the origin's other text", beyond, sig, nil)
}

func TestKeyWithoutX(t *testing.T) {
	for _, y := range []int64{2, 7, 8, 11, 12, 13} {
		noPoint(t, "no x goes with y", text(whole(y)))
		noPoint(t, "no x goes with y", odd(text(whole(y))))
		noPoint(t, "no x goes with y", text(plus(prime(), -y)))
	}
}

func TestKeyOddNought(t *testing.T) {
	for _, k := range []api.Key{{1}, text(plus(prime(), -1))} {
		noPoint(t, "x is 0 and the topmost bit 1", odd(k))
	}
	sig := pair(curve.Generator().Key(), api.Key{1})
	if !known(odd(api.Key{1}), sig, nil) {
		t.Fatal("the library has become strict")
	}
	wrong(t, "the origin's other text", odd(api.Key{1}), sig, nil)
}

// TestSecondHalf: it must be a residue's, though more would be the same multiple
// of the generator.
func TestSecondHalf(t *testing.T) {
	public, sig, signedText := signed(t)
	first := firstOf(sig)
	for n := int64(1); n < 16; n++ {
		more := new(big.Int).Mul(order(), whole(n))
		more.Add(more, number(sig[32:]))
		if more.BitLen() <= 256 {
			wrong(t, "the order added", public, pair(first, text(more)), signedText)
		}
	}
	wrong(t, "the order", public, pair(first, text(order())), signedText)
	wrong(t, "all ff", public, pair(first, ones()), signedText)

	origin := api.Key{1}
	right(t, "0", origin, pair(origin, api.Key{}), nil)
	wrong(t, "the order for 0", origin, pair(origin, text(order())), nil)
	last := text(plus(order(), -1))
	right(t, "the order less 1", origin, pair(curve.Generator().Many(last).Key(), last), nil)
	wrong(t, "all ff", origin, pair(curve.Generator().Many(ones()).Key(), ones()), nil)
	wrong(t, "the order and 1", origin, pair(curve.Generator().Key(), text(plus(order(), 1))), nil)
}

func TestFirstHalf(t *testing.T) {
	public, sig, signedText := signed(t)
	g := curve.Generator()
	for _, first := range []api.Key{
		g.Key(), public, {1}, {}, opposite(firstOf(sig)), secondOf(sig),
		point(t, firstOf(sig)).Plus(g).Key(),                                // another point's
		{2}, odd(api.Key{1}), text(prime()), text(plus(prime(), 1)), ones(), // no point's
	} {
		wrong(t, "another first half", public, pair(first, secondOf(sig)), signedText)
	}
}

// TestFirstHalfWrittenOtherwise: only the point's own text is its text.
func TestFirstHalfWrittenOtherwise(t *testing.T) {
	origin, low := api.Key{1}, text(plus(prime(), -1))
	for _, c := range []struct{ first, otherwise api.Key }{
		{origin, text(plus(prime(), 1))}, {origin, odd(origin)}, {origin, odd(text(plus(prime(), 1)))}, {low, odd(low)},
	} {
		public := c.first
		for i := range byte(50) {
			if right := Right(public, pair(c.first, api.Key{}), []byte{i}); right != known(public, pair(c.first, api.Key{}), []byte{i}) {
				t.Errorf("%x: %v", c.first, right)
			}
			wrong(t, "written otherwise", public, pair(c.otherwise, api.Key{}), []byte{i})
		}
	}
}

func TestChangedBits(t *testing.T) {
	public, sig, text := signed(t)
	for i := range 8 * len(sig) {
		changed := sig
		changed[i/8] ^= 1 << (i % 8)
		wrong(t, "one bit of the signature", public, changed, text)
	}
	for i := range 8 * len(public) {
		changed := public
		changed[i/8] ^= 1 << (i % 8)
		wrong(t, "one bit of the key", changed, sig, text)
	}
	for i := range 8 * len(text) {
		changed := slices.Clone(text)
		changed[i/8] ^= 1 << (i % 8)
		wrong(t, "one bit of the text", public, sig, changed)
	}
}

func TestAnother(t *testing.T) {
	public, sig, text := signed(t)
	for i := range text {
		wrong(t, "a shorter text", public, sig, text[:i])
		wrong(t, "a shorter text", public, sig, text[i+1:])
	}
	for _, more := range [][]byte{{0}, {0xff}, text} {
		wrong(t, "a longer text", public, sig, slices.Concat(text, more))
		wrong(t, "a longer text", public, sig, slices.Concat(more, text))
	}
	wrong(t, "another text", public, sig, []byte("what was made, and for whom"))
	wrong(t, "noughts", public, api.Wide{}, text)
	wrong(t, "halves in the other order", public, pair(secondOf(sig), firstOf(sig)), text)
	for _, seed := range seeds() {
		if other := Public(seed); other != public {
			wrong(t, "another key", other, sig, text)
		}
	}
	wrong(t, "the opposite key", opposite(public), sig, text)
}

// TestDrawn holds keys, signatures and texts without an order against the library.
func TestDrawn(t *testing.T) {
	random := draw()
	for range 100 {
		public, sig, text := api.Key(random(32)), api.Wide(random(64)), random(10)
		sig[63] &= 0x0f
		if Right(public, sig, text) != known(public, sig, text) {
			t.Errorf("%x, %x, %x", public, sig, text)
		}
	}
}

// P5.2

func TestSignedIsRight(t *testing.T) {
	for _, seed := range seeds() {
		public := Public(seed)
		for _, text := range texts() {
			sig := Sign(seed, text)
			if !Right(public, sig, text) {
				t.Errorf("%x of %x: is refused", seed, text)
			}
			if !ed25519.Verify(public[:], text, sig[:]) {
				t.Errorf("%x of %x: the library refuses it", seed, text)
			}
		}
	}
}

// P5.3

// TestChangesNothing: the parts, their spare room, the row of parts, its spare
// room, and the arrays are what they were.
func TestChangesNothing(t *testing.T) {
	seed := seeds()[6]
	room := draw()(300)
	row := [][]byte{room[:100], room[100:150], nil, room[250:260], room[280:]}
	bytesWere, rowWas, seedWas := slices.Clone(room), slices.Clone(row), seed

	parts := row[:3]
	public := Public(seed)
	sig := Sign(seed, parts...)
	sigWas, publicWas := sig, public
	if !Right(public, sig, parts...) {
		t.Error("is refused")
	}
	again := Sign(seed, parts...)
	sig[0] ^= 1
	if Right(public, sig, parts...) {
		t.Error("is right")
	}
	sig[0] ^= 1
	if Right(api.Key{2}, sig, parts...) {
		t.Error("is right by no key")
	}

	if !bytes.Equal(room, bytesWere) {
		t.Error("the parts' bytes are changed")
	}
	if len(parts) != 3 || !slices.EqualFunc(row, rowWas, sameRow) {
		t.Error("the row of parts is changed")
	}
	if seed != seedWas || public != publicWas || sig != sigWas || again != sigWas {
		t.Error("the seed, the key or the signature is changed")
	}
}

// sameRow asks for the same memory, not only for the same bytes.
func sameRow(a, b []byte) bool {
	if len(a) != len(b) || cap(a) != cap(b) {
		return false
	}
	return len(a) == 0 || &a[0] == &b[0]
}

// TestKeepsNothing: what becomes of the parts later changes no answer.
func TestKeepsNothing(t *testing.T) {
	seed, part := seeds()[7], []byte("kept")
	sig := Sign(seed, part, part)
	was := sig
	part[0] = 'w'
	if sig != was || Sign(seed, []byte("kept"), []byte("kept")) != was {
		t.Error("the signature is changed")
	}
	if Sign(seed, part, part) == was || Right(Public(seed), sig, part, part) {
		t.Error("the parts of an earlier call are signed")
	}
}
