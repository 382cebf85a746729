package keys

import (
	"encoding/hex"
	"strings"
	"testing"

	"cachet/api"
)

// P16.1: texts that are keys.

func hexOf(t *testing.T, s string) []byte {
	t.Helper()
	b, err := hex.DecodeString(s)
	if err != nil {
		t.Fatal(err)
	}
	return b
}

func is(t *testing.T, want bool, all ...string) {
	t.Helper()
	for _, s := range all {
		if Is(s) != want || plainKeys.MatchString(s) != want {
			t.Errorf("%.200q is a key: %v, plainly %v", s, Is(s), plainKeys.MatchString(s))
		}
	}
}

func TestIs(t *testing.T) {
	f := "0123456789abcdef" + figures(1)[16:]
	is(t, true, "id:a", "id:alice", "id:alice@example.org", "id:.-_@", "id:0", "id:key", "id:sha256", "id:id", "id:"+f, "key:"+f, "sha256:"+f, "key:"+noughts, "sha256:"+noughts, "key:"+strings.Repeat("f", 64), "sha256:"+strings.Repeat("f", 64))
	is(t, false, "", ":", "sha256:", "id:", "key:", "sha256", "id", "key", "s", "i", "k", "sha256: ", "id: ", "key: ", f, ":"+f, "alice", ":alice")
	is(t, false, "id:A", "id:Alice", "id:alicE", "id:a b", "id:a:b", "id:id:a", "id:key:"+f, "id:a/", "id:a+b", "id:é", "id:a\x00", "id:\x00", "id:\xff", "id:a,b", "id:~", "id:a\n")
	for _, mark := range []string{"sha256:", "key:"} {
		is(t, false, mark+strings.ToUpper(f), mark+"A"+f[1:], mark+f[:63]+"F", mark+f[:63]+"g", mark+"g"+f[1:], mark+f[:62], mark+f[:63], mark+f+"0", mark+f+"00", mark+f+f, mark+"0x"+f, mark+"0x"+f[2:], mark+f[:62]+"é", mark+f[:63]+"=", mark+mark+f, mark+"alice", mark+":"+f)
	}
}

func TestIsLengths(t *testing.T) {
	for n := range 200 {
		is(t, n == 64, "sha256:"+strings.Repeat("a", n), "key:"+strings.Repeat("0", n))
		is(t, n >= 1 && n <= 64, "id:"+strings.Repeat("a", n), "id:"+strings.Repeat("@", n))
	}
	is(t, false, "id:"+strings.Repeat("a", 1<<20), "key:"+strings.Repeat("a", 1<<20), "sha256:"+strings.Repeat("a", 1<<20))
}

// TestIsOtherMark has other words ahead of the colon, or none.
func TestIsOtherMark(t *testing.T) {
	f := figures(1)
	for _, mark := range []string{"", ":", "ID:", "Id:", "Key:", "KEY:", "SHA256:", "Sha256:", "sha512:", "sha256", "sha256::", "sha256=", "sha256;", "sha-256:", "sha25:", "sha2566:", "xsha256:", "keys:", "ke:", "key", "key=", "key::", "ids:", "i:", "d:", "id", "id=", "id::", "md5:", "leaf:", "identity:", "digest:"} {
		is(t, false, mark+f, mark+"alice")
	}
}

func TestIsBlanks(t *testing.T) {
	for _, k := range []string{"id:alice", "key:" + figures(1), "sha256:" + figures(1)} {
		is(t, true, k)
		for _, blank := range []string{" ", "\n", "\t", "\r", "\x00", "\u00a0", "\ufeff", "\""} {
			is(t, false, blank+k, k+blank, blank+k+blank, strings.Replace(k, ":", ":"+blank, 1), strings.Replace(k, ":", blank+":", 1), strings.Replace(k, ":", blank, 1))
		}
	}
}

// TestIsEachByte has each byte at each place of keys, and one too few there.
func TestIsEachByte(t *testing.T) {
	for _, k := range []string{"id:a", "id:alice", "id:" + strings.Repeat("n", 64), "key:" + figures(1), "sha256:" + figures(1)} {
		for at := range len(k) {
			for b := range 256 {
				s := k[:at] + string([]byte{byte(b)}) + k[at+1:]
				if Is(s) != plainKeys.MatchString(s) {
					t.Errorf("%q is a key: %v", s, Is(s))
				}
			}
			less := k[:at] + k[at+1:]
			is(t, plainKeys.MatchString(less), less)
			is(t, plainKeys.MatchString(k[:at]), k[:at])
		}
	}
}

func TestMakers(t *testing.T) {
	for n := range 256 {
		if k := Digest(digest(n)); k != "sha256:"+figures(n) || !Is(k) {
			t.Error(n, k)
		}
		if k := Key(key(n)); k != "key:"+figures(n) || !Is(k) {
			t.Error(n, k)
		}
	}
	for got, want := range map[string]string{
		Digest(api.Sum{}):          "sha256:" + noughts,
		Key(api.Key{}):             "key:" + noughts,
		Digest(api.Sum{0, 171}):    "sha256:00ab" + noughts[4:],
		Key(api.Key{0, 171}):       "key:00ab" + noughts[4:],
		Key(api.Key{31: 0xf0}):     "key:" + noughts[2:] + "f0",
		Digest(api.Sum{31: 0xf0}):  "sha256:" + noughts[2:] + "f0",
		Identity("alice"):          "id:alice",
		Identity("a"):              "id:a",
		Identity("x@y.org-1_2"):    "id:x@y.org-1_2",
		Identity(figures(1)):       "id:" + figures(1),
		Identity("key:" + noughts): "id:key:" + noughts,
	} {
		if got != want {
			t.Errorf("%q, want %q", got, want)
		}
	}
}

// TestIdentityOfNoName: of a text that is no name there is an identity's text, too, though it is no key.
func TestIdentityOfNoName(t *testing.T) {
	for _, s := range []string{"", " ", "Alice", "a b", "é", "\x00", "\xff\xfe", "id:alice", "a\n", strings.Repeat("n", 65), strings.Repeat("n", 1<<20)} {
		if k := Identity(s); k != "id:"+s || Is(k) {
			t.Errorf("%.200q: %.200q, a key: %v", s, k, Is(k))
		}
	}
	for _, s := range []string{"a", strings.Repeat("n", 64), ".", "-", "_", "@", "0"} {
		if k := Identity(s); k != "id:"+s || !Is(k) {
			t.Errorf("%q: %q", s, k)
		}
	}
}
