package hash_test

import (
	"math/rand"
	"strings"
	"testing"

	"rivermark/api"
	"rivermark/hash"
)

func TestPiecesDoNotMatter(t *testing.T) {
	for _, n := range []int{0, 1, 55, 56, 63, 64, 65, 127, 128, 129, 500} {
		message := text(n)
		want := hash.Sum([]byte(message))
		for size := 1; size <= n+1; size++ {
			s := hash.Begin().Add("")
			for at := 0; at < n; at += size {
				s = s.Add(message[at:min(n, at+size)]).Add("")
			}
			if s.Sum() != want {
				t.Errorf("P2.5: the hash of %d bytes in pieces of %d bytes is %x, want %x", n, size, s.Sum(), want)
			}
		}
	}
	r := rand.New(rand.NewSource(5))
	for range 300 {
		message := text(r.Intn(2000))
		s, at := hash.Begin(), 0
		for at < len(message) {
			next := min(len(message), at+r.Intn(200))
			s = s.Add(message[at:next])
			at = next
		}
		if s.Sum() != hash.Sum([]byte(message)) {
			t.Errorf("P2.5: the hash of %d bytes depends on the pieces", len(message))
		}
	}
}

// lists returns different lists of parts of which many have the same concatenation.
func lists() [][]string {
	l := [][]string{nil}
	for _, s := range []string{"", "a", "b", "ab", "\x00", "\x00\x00", "\x02a", "\x00\x02a", "\x04ab", "a\x02b", text(64), text(64)[1:], "\x02a\x02b"} {
		l = append(l, []string{s}, []string{s, ""}, []string{"", s, "b"}, []string{s, s, s})
	}
	return append(l, []string{"", "a"}, []string{"a", "b"}, []string{"a", "b", ""}, []string{"abc", "d"}, []string{"ab", "cd"}, make([]string, 10), make([]string, 11))
}

func TestDifferentPartsDiffer(t *testing.T) {
	seen := map[api.Digest]int{}
	for i, parts := range lists() {
		for tag := range 256 {
			d := hash.Of(tag, parts...)
			if seen[d]++; seen[d] > 1 {
				t.Fatalf("P2.6: the digest of the list %d with the tag %d is not new", i, tag)
			}
			if d != hash.Of(tag+256, parts...) || d != hash.Of(tag-256, parts...) {
				t.Fatalf("P2.2: the digest of the list %d with the tag %d is not that with the tag modulo 256", i, tag)
			}
		}
	}
	for i, parts := range lists() {
		for _, key := range []string{"", "k", text(65)} {
			d := hash.Mac(key, parts...)
			if seen[d]++; seen[d] > 1 {
				t.Fatalf("P2.6: the digest of the list %d with the key %.10q is not new", i, key)
			}
		}
	}
}

// checkSameKeys checks that two keys have the same keyed hashes, or that they have not.
func checkSameKeys(t *testing.T, key, other string, want bool) {
	t.Helper()
	hmacs := hash.Hmac(key, "message") == hash.Hmac(other, "message")
	macs := hash.Mac(key, "part") == hash.Mac(other, "part")
	seeds := hash.Expand(key, 100) == hash.Expand(other, 100)
	if hmacs != want || macs != want || seeds != want {
		t.Errorf("P2.7: the keys %q and %q have the same hashes: %t, %t, %t, want %t", key, other, hmacs, macs, seeds, want)
	}
}

func TestBlocksOfKeys(t *testing.T) {
	zeros := strings.Repeat("\x00", 64)
	for n := range 64 {
		key := text(n)
		checkSameKeys(t, key, key+"\x00", true)
		checkSameKeys(t, key, key+zeros[n:], true)
		checkSameKeys(t, key, key+"\x01", false)
		checkSameKeys(t, key, key+zeros[n:]+"\x00", false)
	}
	checkSameKeys(t, "", zeros, true)
	checkSameKeys(t, "a", "\x00a", false)
	for _, n := range []int{65, 66, 100, 128, 1000} {
		key := text(n)
		sum := hash.Sum([]byte(key))
		checkSameKeys(t, key, string(sum[:]), true)
		checkSameKeys(t, key, string(sum[:])+"\x00", true)
		checkSameKeys(t, key, key+"\x00", false)
		checkSameKeys(t, key, key[:64], false)
	}
	// A key that just fills its block is not hashed.
	full := text(64)
	sum := hash.Sum([]byte(full))
	checkSameKeys(t, full, string(sum[:]), false)
}

func TestExpandIsABeginning(t *testing.T) {
	for _, seed := range []string{"", "seed", text(100)} {
		longer := hash.Expand(seed, 4096)
		for n := 4095; n > 0; n -= 7 {
			if s := hash.Expand(seed, n); len(s) != n || !strings.HasPrefix(longer, s) {
				t.Fatalf("P2.9: Expand to %d bytes is no beginning of Expand to %d bytes", n, len(longer))
			}
		}
	}
	if hash.Expand("seed", 32) == hash.Expand("seee", 32) {
		t.Error("P2.8: two seeds have the same bytes")
	}
}

// TestEveryMessage calls everything with arguments of all kinds: nothing panics (P1).
func TestEveryMessage(t *testing.T) {
	r := rand.New(rand.NewSource(6))
	for range 2000 {
		a, b := text(r.Intn(150)), text(r.Intn(150))
		hash.Sum([]byte(a))
		hash.Begin().Add(a).Add(b).Sum()
		hash.Of(int(r.Uint64()), a, b)
		hash.Hmac(a, b)
		hash.Mac(a, b, a)
		if n := r.Intn(300) - 100; len(hash.Expand(a, n)) != max(n, 0) {
			t.Fatalf("P2.8: Expand to %d bytes has another length", n)
		}
	}
}
