package coder

import (
	"bytes"
	"strings"
	"testing"
)

// P14.3: what is handed in is neither changed nor kept; answers are new memory.

// TestPutLeavesBytes writes over what was handed in, with the room behind it, and asks the answer.
func TestPutLeavesBytes(t *testing.T) {
	for _, c := range codes() {
		for n := range 70 {
			whole := append(append([]byte("ahead"), sample(n)...), "behind, with room for all the signs of the bytes ahead of it, which are twice as many as these bytes"...)
			kept := bytes.Clone(whole)
			b := whole[5 : 5+n]
			s := c.put(b)
			if !bytes.Equal(whole, kept) {
				t.Errorf("%s of %d bytes: changed", c.name, n)
			}
			for i := range whole {
				whole[i] = 'z'
			}
			if s != c.plainPut(sample(n)) {
				t.Errorf("%s of %d bytes: kept", c.name, n)
			}
		}
	}
}

// TestTakeIsNewMemory writes over an answer, with the room behind it, and asks another one.
func TestTakeIsNewMemory(t *testing.T) {
	for _, c := range codes() {
		for n := range 70 {
			s := c.plainPut(sample(n))
			kept := strings.Clone(s)
			x, err := c.take(s)
			y, other := c.take(s)
			if err != nil || other != nil {
				t.Fatalf("%s of %q: %v, %v", c.name, s, err, other)
			}
			x = append(x, "more"...)
			x = x[:cap(x)]
			for i := range x {
				x[i] = 'z'
			}
			if !bytes.Equal(y, sample(n)) || s != kept {
				t.Errorf("%s of %q: shares memory", c.name, s)
			}
			if z, err := c.take(s); err != nil || !bytes.Equal(z, sample(n)) {
				t.Errorf("%s of %q: % x, %v", c.name, s, z, err)
			}
		}
	}
}

// TestFixedAreApart: a digest and a signature are values of their own.
func TestFixedAreApart(t *testing.T) {
	s, w := plainHex(sample(32)), plainBase64(sample(64))
	d, _ := Sum(s)
	e, _ := Wide(w)
	clear(d[:])
	clear(e[:])
	again, err := Sum(s)
	if err != nil || !bytes.Equal(again[:], sample(32)) {
		t.Error(again, err)
	}
	wide, err := Wide(w)
	if err != nil || !bytes.Equal(wide[:], sample(64)) {
		t.Error(wide, err)
	}
}

// TestSameAgain asks all twice, with wrong ones between: nothing is kept from call to call.
func TestSameAgain(t *testing.T) {
	for _, c := range codes() {
		for range 2 {
			for n := range 40 {
				c.round(t, sample(n))
				c.holds(t, c.plainPut(sample(n))+"!")
				c.holds(t, c.plainPut(sample(n))[n/2:])
			}
		}
	}
}
