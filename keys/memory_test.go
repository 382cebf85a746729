package keys

import (
	"bytes"
	"slices"
	"testing"

	"cachet/api"
)

// P16.3: answers are new memory, and what is handed in stays as it was, the room behind it, too.

// roomy is a copy of an entry with room behind each list, in which something stands.
func roomy(e api.Entry) api.Entry {
	e.Payload = append(bytes.Clone(e.Payload), "behind"...)[:len(e.Payload)]
	e.Sigs = append(slices.Clone(e.Sigs), byName("behind"), byKey(77))[:len(e.Sigs)]
	return e
}

// behindStays tells whether what stands in the room behind lists is there.
func behindStays(e api.Entry) bool {
	n, m := len(e.Payload), len(e.Sigs)
	return string(e.Payload[n:n+6]) == "behind" && e.Sigs[m : m+2][0] == byName("behind") && e.Sigs[m : m+2][1] == byKey(77)
}

// overEntry writes over the lists of an entry, and over the room behind them.
func overEntry(e api.Entry) {
	b := e.Payload[:cap(e.Payload)]
	for i := range b {
		b[i] = 'z'
	}
	all := e.Sigs[:cap(e.Sigs)]
	for i := range all {
		all[i] = byName("over")
	}
}

func overTexts(all []string) {
	all = all[:cap(all)]
	for i := range all {
		all[i] = "over"
	}
}

// some are entries, and some that are none.
func some() []api.Entry {
	return append(entries(), sized(4096), sized(4097), api.Entry{}, artifact(1), artifact(1, byName("b"), byName("a")), statement("{}", names(1)...), binding(api.Revoke, "bob", key(1), names(1)...))
}

func TestOfIsApart(t *testing.T) {
	for i, e := range some() {
		a := roomy(e)
		x, err := Of(a)
		want := slices.Clone(x)
		y, other := Of(a)
		if err != other || !slices.Equal(x, y) {
			t.Fatalf("%d: %q, %v, and %q, %v", i, x, err, y, other)
		}
		overTexts(x)
		if !slices.Equal(y, want) || !sameEntry(a, e) || !behindStays(a) {
			t.Errorf("%d: shares memory, or changed", i)
		}
		if z, err := Of(a); err != other || !slices.Equal(z, want) {
			t.Errorf("%d: another answer: %q, %v", i, z, err)
		}
		overEntry(a)
		if !slices.Equal(y, want) {
			t.Errorf("%d: kept", i)
		}
	}
}

func TestLeafAndMeetsChangeNothing(t *testing.T) {
	for i, e := range some() {
		a := roomy(e)
		own, _ := Of(e)
		watched := append(slices.Concat([]string{"z", "a", "a"}, own, []string{"id:", "b"}), "behind", "more")
		kept := slices.Clone(watched)
		part := watched[:len(watched)-2]
		first, err := Leaf(a)
		met := Meets(a, part...)
		if met != (len(own) > 0) {
			t.Errorf("%d: meets: %v", i, met)
		}
		if !sameEntry(a, e) || !behindStays(a) || !slices.Equal(watched, kept) {
			t.Errorf("%d: changed", i)
		}
		if again, other := Leaf(a); again != first || other != err || Meets(a, part...) != met {
			t.Errorf("%d: another answer", i)
		}
		// What was watched, or handed in, before doesn't count.
		overEntry(a)
		if Meets(e) || Meets(e, "z", "a") {
			t.Errorf("%d: kept what was watched", i)
		}
		if d, other := Leaf(e); d != first || other != err {
			t.Errorf("%d: %x, %v", i, d, other)
		}
	}
}

// TestSameAgain asks all twice, with other asks between: nothing is kept from call to call.
func TestSameAgain(t *testing.T) {
	var firsts [][]string
	for _, e := range some() {
		l, _ := Of(e)
		firsts = append(firsts, slices.Clone(l))
		overTexts(l)
	}
	for i, e := range some() {
		if l, _ := Of(e); !slices.Equal(l, firsts[i]) {
			t.Errorf("%d: another answer: %q", i, l)
		}
	}
}
