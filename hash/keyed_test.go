package hash_test

import (
	"crypto/hmac"
	"crypto/sha256"
	"strings"
	"testing"

	"rivermark/api"
	"rivermark/hash"
	"rivermark/wire"
)

// keyedHash is the keyed hash of the library.
func keyedHash(key, message string) [32]byte {
	h := hmac.New(sha256.New, []byte(key))
	h.Write([]byte(message))
	return [32]byte(h.Sum(nil))
}

func TestHmacExamples(t *testing.T) {
	for _, x := range []struct{ key, message, want string }{
		{"Jefe", "what do ya want for nothing?", "5bdcc146bf60754e6a042426089575c75a003f089d2739839dec58b964ec3843"},
		{strings.Repeat("\x0b", 20), "Hi There", "b0344c61d8db38535ca8afceaf0bf12b881dc200c9833da726e9376c2e32cff7"},
		{strings.Repeat("\xaa", 131), "Test Using Larger Than Block-Size Key - Hash Key First", "60e431591ee0b67f0d8a26aacbf5b77f8e0bc6213728c5140546040f0ee37f54"},
		{"", "", "b613679a0814d9ec772f95d778c35fc5ff1697c493715653c6c712144292c5ad"},
	} {
		if got := inHex(hash.Hmac(x.key, x.message)); got != x.want {
			t.Errorf("P2.3: Hmac(%q, %q) = %s, want %s", x.key, x.message, got, x.want)
		}
	}
}

func TestHmacIsAsDefined(t *testing.T) {
	for _, k := range []int{0, 1, 31, 32, 33, 55, 56, 63, 64, 65, 66, 127, 128, 129, 1000} {
		for _, m := range []int{0, 1, 23, 24, 55, 56, 63, 64, 65, 119, 120, 500} {
			key, message := text(k), text(m)
			if got, want := hash.Hmac(key, message), keyedHash(key, message); got != want {
				t.Errorf("P2.3: Hmac of a key of %d bytes and a message of %d bytes is %x, want %x", k, m, got, want)
			}
		}
	}
}

func TestMac(t *testing.T) {
	for _, key := range []string{"", "k", text(64), text(65), text(300)} {
		for _, parts := range [][]string{nil, {""}, {"a"}, {"a", ""}, {"ab", "c"}, {"a", "bc"}, {text(64), text(200)}, make([]string, 100)} {
			var b []byte
			for _, p := range parts {
				b = append(b, wire.Bytes(p)...)
			}
			want := keyedHash(key, string(b))
			if got := hash.Mac(key, parts...); got != api.Digest(want[:16]) {
				t.Errorf("P2.4: Mac of a key of %d bytes and %d parts is %x, want the beginning of %x", len(key), len(parts), got, want)
			}
		}
	}
}

// expanded returns the bytes that P2.8 defines.
func expanded(seed string, n int) string {
	var b []byte
	for i := 0; len(b) < n; i++ {
		h := keyedHash(seed, string(wire.Int(i)))
		b = append(b, h[:]...)
	}
	return string(b[:n])
}

func TestExpand(t *testing.T) {
	for _, seed := range []string{"", "seed", text(64), text(65), text(500)} {
		// From the 64th part on, the encoding of its number is longer.
		want := expanded(seed, 70*32)
		for n := 1; n <= len(want); n++ {
			if got := hash.Expand(seed, n); got != want[:n] {
				t.Fatalf("P2.8: Expand of a seed of %d bytes to %d bytes is %x, want %x", len(seed), n, got, want[:n])
			}
		}
	}
}

func TestExpandLimits(t *testing.T) {
	for _, n := range []int{0, -1, -32, -1 << 63, api.MaxExpand + 1, api.MaxExpand + 32, 1<<63 - 1} {
		if got := hash.Expand("seed", n); got != "" {
			t.Errorf("P2.8: Expand to %d bytes has %d bytes", n, len(got))
		}
	}
	// The second seed would take minutes if it were hashed for each part.
	for _, seed := range []string{"seed", text(1 << 20)} {
		most := hash.Expand(seed, api.MaxExpand)
		if most != expanded(string(short(seed)), api.MaxExpand) {
			t.Errorf("P2.8: Expand of a seed of %d bytes to the greatest number of bytes is wrong", len(seed))
		}
		if hash.Expand(seed, api.MaxExpand-1) != most[:api.MaxExpand-1] {
			t.Errorf("P2.8: Expand of a seed of %d bytes to one byte less is wrong", len(seed))
		}
	}
}

// short returns a key of at most 64 bytes with the same block (P2.7).
func short(key string) []byte {
	if len(key) <= 64 {
		return []byte(key)
	}
	sum := sha256.Sum256([]byte(key))
	return sum[:]
}
