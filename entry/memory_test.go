package entry

import (
	"bytes"
	"slices"
	"testing"

	"cachet/api"
)

// P15.3: what is handed in is neither changed nor kept; answers are new memory.

// roomy is a copy of an entry with room behind each list, in which something stands.
func roomy(e api.Entry) api.Entry {
	e.Payload = append(bytes.Clone(e.Payload), "behind"...)[:len(e.Payload)]
	e.Sigs = append(slices.Clone(e.Sigs), byName("behind"), byKey(77))[:len(e.Sigs)]
	return e
}

// behindStays tells whether what stands in the room behind lists is there.
func behindStays(e api.Entry) bool {
	n, m := len(e.Payload), len(e.Sigs)
	return string(e.Payload[n:n+6]) == "behind" && e.Sigs[m : m+2][0] == byName("behind") && e.Sigs[m : m+2][1] == byKey(77)
}

// scribble writes over the lists of an entry, and over the room behind them.
func scribble(e api.Entry) {
	overBytes(e.Payload)
	all := e.Sigs[:cap(e.Sigs)]
	for i := range all {
		all[i] = byName("scribbled")
	}
}

func overBytes(b []byte) {
	b = b[:cap(b)]
	for i := range b {
		b[i] = 'z'
	}
}

// overValue writes over all lists within a value, and over the room behind them.
func overValue(v api.Value) {
	for _, x := range v.List {
		overValue(x)
	}
	for _, p := range v.Pairs {
		overValue(p.Value)
	}
	for i := range v.List[:cap(v.List)] {
		v.List[:cap(v.List)][i] = txt("scribbled")
	}
	for i := range v.Pairs[:cap(v.Pairs)] {
		v.Pairs[:cap(v.Pairs)][i] = with("scribbled", num(i))
	}
}

// all are entries, and some that are none.
func all() []api.Entry {
	none := full()
	tooMany := artifact()
	for i := range 9 {
		tooMany.Sigs = append(tooMany.Sigs, byKey(i))
	}
	falling := artifact(byName("b"), byName("a"))
	return append(entries(), none, tooMany, falling, sized(4096), sized(4097), envelope("x", make([]byte, 2049)))
}

func TestCallsChangeNothing(t *testing.T) {
	for i, e := range all() {
		want := cloneEntry(e)
		a := roomy(e)
		Check(a)
		Value(a)
		Put(a)
		Signed(a)
		Equal(a, want)
		Equal(want, a)
		Auth(a.Type, a.Payload)
		Subjects(a.Payload)
		Parse(a.Payload)
		if !sameEntry(a, want) || !behindStays(a) {
			t.Errorf("%d: changed", i)
		}
	}
}

// TestBytesAreApart asks twice for bytes, and writes over the first answer, and over what was handed in.
func TestBytesAreApart(t *testing.T) {
	calls := []func(api.Entry) ([]byte, error){
		Put,
		Signed,
		func(e api.Entry) ([]byte, error) { return Auth(e.Type, e.Payload), nil },
	}
	for i, e := range all() {
		for n, call := range calls {
			a := roomy(e)
			x, err := call(a)
			y, other := call(a)
			if err != other || !bytes.Equal(x, y) {
				t.Fatalf("%d, %d: %.100q, %v, and %.100q, %v", i, n, x, err, y, other)
			}
			want := bytes.Clone(x)
			overBytes(x)
			if !bytes.Equal(y, want) || !sameEntry(a, e) || !behindStays(a) {
				t.Errorf("%d, %d: shares memory", i, n)
			}
			scribble(a)
			if !bytes.Equal(y, want) {
				t.Errorf("%d, %d: kept", i, n)
			}
		}
	}
}

func TestValuesAreApart(t *testing.T) {
	for i, e := range all() {
		a := roomy(e)
		x, err := Value(a)
		y, other := Value(a)
		if err != other || !alike(x, y) {
			t.Fatalf("%d: %v, %v, and %v, %v", i, x, err, y, other)
		}
		want := clone(x)
		overValue(x)
		if !alike(y, want) || !sameEntry(a, e) || !behindStays(a) {
			t.Errorf("%d: shares memory", i)
		}
		scribble(a)
		if !alike(y, want) {
			t.Errorf("%d: kept", i)
		}
	}
}

// TestListsOfValuesAreApart grows each list of an answer, and asks the others.
func TestListsOfValuesAreApart(t *testing.T) {
	for _, e := range entries() {
		whole := valueOf(t, e)
		for i := range parts(&whole) {
			x := valueOf(t, e)
			want := clone(x)
			inner, wanted := parts(&x)[i], parts(&want)[i]
			_ = append(inner.List, txt("more"))
			_ = append(inner.Pairs, with("more", num(0)))
			inner.List, wanted.List = append(inner.List, txt("more")), append(wanted.List, txt("more"))
			inner.Pairs, wanted.Pairs = append(inner.Pairs, with("more", num(0))), append(wanted.Pairs, with("more", num(0)))
			if !alike(x, want) {
				t.Errorf("%v: list %d shares memory with another one", e, i)
			}
		}
	}
}

// roomyValue is a copy of a value with room behind each list, in which something stands.
func roomyValue(v api.Value) api.Value {
	var list []api.Value
	for _, x := range v.List {
		list = append(list, roomyValue(x))
	}
	var named []api.Pair
	for _, p := range v.Pairs {
		named = append(named, with(p.Name, roomyValue(p.Value)))
	}
	v.List = append(list, txt("behind"))[:len(v.List)]
	v.Pairs = append(named, with("behind", num(1)))[:len(v.Pairs)]
	return v
}

// valueStays tells whether all that stands in the room behind lists is there.
func valueStays(v api.Value) bool {
	for _, x := range parts(&v) {
		if !alike(x.List[:len(x.List)+1][len(x.List)], txt("behind")) || x.Pairs[:len(x.Pairs)+1][len(x.Pairs)].Name != "behind" {
			return false
		}
	}
	return true
}

func TestOfIsApart(t *testing.T) {
	for i, e := range append(entries(), sized(4097)) {
		v := valueOf(t, e)
		slices.Reverse(v.Pairs)
		a := roomyValue(v)
		x, err := Of(a)
		y, other := Of(a)
		if err != nil || other != nil {
			t.Fatal(i, err, other)
		}
		if !alike(a, v) || !valueStays(a) {
			t.Errorf("%d: changed", i)
		}
		scribble(x)
		if !sameEntry(y, e) || !alike(a, v) || !valueStays(a) {
			t.Errorf("%d: shares memory", i)
		}
		overValue(a)
		if !sameEntry(y, e) {
			t.Errorf("%d: kept", i)
		}
	}
	// Nor does it change what it refuses.
	for i, e := range entries() {
		v := valueOf(t, e)
		v.Pairs[0].Name = "other"
		a := roomyValue(v)
		if _, err := Of(a); err != api.ErrKind || !alike(a, v) || !valueStays(a) {
			t.Errorf("%d: %v", i, err)
		}
	}
}

func TestParseIsApart(t *testing.T) {
	for i, e := range entries() {
		text, err := Put(e)
		if err != nil {
			t.Fatal(i, err)
		}
		whole := append(append([]byte("ahead"), text...), "behind"...)
		kept := bytes.Clone(whole)
		a := whole[5 : 5+len(text)]
		x, err := Parse(a)
		y, other := Parse(a)
		if err != nil || other != nil || !sameEntry(x, e) {
			t.Fatal(i, err, other)
		}
		scribble(x)
		if !bytes.Equal(whole, kept) || !sameEntry(y, e) {
			t.Errorf("%d: shares memory, or changed", i)
		}
		overBytes(whole)
		if !sameEntry(y, e) {
			t.Errorf("%d: kept", i)
		}
	}
}

func TestSubjectsAreApart(t *testing.T) {
	text := statement(subject("a", 1), subject("b", 2), subject("c", 3))
	want := []api.Subject{{Name: "a", Digest: digest(1)}, {Name: "b", Digest: digest(2)}, {Name: "c", Digest: digest(3)}}
	whole := append([]byte("ahead"+text), "behind"...)
	kept := bytes.Clone(whole)
	a := whole[5 : 5+len(text)]
	x, err := Subjects(a)
	y, other := Subjects(a)
	if err != nil || other != nil || !slices.Equal(x, want) {
		t.Fatal(x, err, other)
	}
	for i := range x[:cap(x)] {
		x[:cap(x)][i] = api.Subject{Name: "scribbled"}
	}
	if !bytes.Equal(whole, kept) || !slices.Equal(y, want) {
		t.Error("shares memory, or changed")
	}
	overBytes(whole)
	if !slices.Equal(y, want) {
		t.Error("kept")
	}
}

// TestSameAgain asks all twice, with other asks between: nothing is kept from call to call.
func TestSameAgain(t *testing.T) {
	var firsts []string
	for _, e := range all() {
		b, err := Put(e)
		s, other := Signed(e)
		firsts = append(firsts, string(b)+string(s))
		if (err == nil) != (other == nil) && err != api.ErrSize {
			t.Error(err, other)
		}
	}
	for i, e := range all() {
		b, _ := Put(e)
		s, _ := Signed(e)
		if string(b)+string(s) != firsts[i] {
			t.Errorf("%d: another answer", i)
		}
	}
}
