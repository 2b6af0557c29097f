package hash_test

import (
	"bytes"
	"crypto/sha256"
	"encoding/hex"
	"math/rand"
	"slices"
	"strings"
	"sync"
	"testing"

	"rivermark/api"
	"rivermark/hash"
	"rivermark/wire"
)

// text returns n bytes of all values, the same ones in each run.
func text(n int) string {
	b := make([]byte, n)
	rand.New(rand.NewSource(int64(n))).Read(b)
	return string(b)
}

// inHex returns bytes as the chapter writes them.
func inHex[T [32]byte | api.Digest](d T) string {
	var b []byte
	switch x := any(d).(type) {
	case [32]byte:
		b = x[:]
	case api.Digest:
		b = x[:]
	}
	return hex.EncodeToString(b)
}

func TestSumExamples(t *testing.T) {
	for _, x := range []struct{ message, want string }{
		{"", "e3b0c44298fc1c149afbf4c8996fb92427ae41e4649b934ca495991b7852b855"},
		{"abc", "ba7816bf8f01cfea414140de5dae2223b00361a396177a9cb410ff61f20015ad"},
		{"abcdbcdecdefdefgefghfghighijhijkijkljklmklmnlmnomnopnopq", "248d6a61d20638b8e5c026930c3e6039a33ce45964ff2167f6ecedd419db06c1"},
		{strings.Repeat("a", 1000000), "cdc76e5c9914fb9281a1c7e284d73e67f1809a48a497200e046d39ccc7112cd0"},
	} {
		if got := inHex(hash.Sum([]byte(x.message))); got != x.want {
			t.Errorf("P2.1: Sum of %.60q is %s, want %s", x.message, got, x.want)
		}
		if got := inHex(hash.Begin().Add(x.message).Sum()); got != x.want {
			t.Errorf("P2.1: the sum of the stream of %.60q is %s, want %s", x.message, got, x.want)
		}
	}
	if hash.Sum(nil) != hash.Sum([]byte{}) || hash.Sum(nil) != hash.Begin().Sum() {
		t.Error("P2.1: the hashes of no bytes differ")
	}
}

// TestSumOfEachLength covers all lengths of the last block, and so all lengths of the padding.
func TestSumOfEachLength(t *testing.T) {
	for n := range 300 {
		for _, message := range []string{text(n), strings.Repeat("\x00", n), strings.Repeat("\xff", n)} {
			want := sha256.Sum256([]byte(message))
			if got := hash.Sum([]byte(message)); got != want {
				t.Errorf("P2.1: Sum of %d bytes is %x, want %x", n, got, want)
			}
		}
	}
	for _, n := range []int{4095, 4096, 4097, 65536, 1<<20 + 3} {
		message := []byte(text(n))
		if got, want := hash.Sum(message), sha256.Sum256(message); got != want {
			t.Errorf("P2.1: Sum of %d bytes is %x, want %x", n, got, want)
		}
	}
}

// TestLongStream hashes a message whose length in bits has more than 32 bits.
func TestLongStream(t *testing.T) {
	piece := text(1 << 20)
	s, reference := hash.Begin(), sha256.New()
	for range 513 {
		s = s.Add(piece)
		reference.Write([]byte(piece))
	}
	if got := s.Sum(); string(got[:]) != string(reference.Sum(nil)) {
		t.Errorf("P2.1: the hash of 513 MiB is %x", got)
	}
}

func TestStreamsStay(t *testing.T) {
	for _, n := range []int{0, 1, 55, 56, 63, 64, 65, 127, 128, 200} {
		first := text(n)
		s := hash.Begin().Add(first)
		before := s.Sum()
		continued := map[string]hash.Stream{}
		for _, more := range []string{"", "a", "b", text(63), text(64), text(65), text(300)} {
			continued[more] = s.Add(more)
		}
		for more, c := range continued {
			want := sha256.Sum256([]byte(first + more))
			if c.Sum() != want || c.Sum() != want {
				t.Errorf("P2.1: a stream of %d bytes continued by %d bytes yields %x, want %x", n, len(more), c.Sum(), want)
			}
			after := c.Add("end").Sum()
			if after != sha256.Sum256([]byte(first+more+"end")) {
				t.Errorf("P2.1: a stream of %d bytes continued by %d bytes is not continued further", n, len(more))
			}
		}
		if s.Sum() != before || before != sha256.Sum256([]byte(first)) {
			t.Errorf("P2.1: a stream of %d bytes changed", n)
		}
	}
}

// TestStreamsAreShared continues one stream in many goroutines: a stream that kept anything in shared memory would be a race.
func TestStreamsAreShared(t *testing.T) {
	s := hash.Begin().Add("shared")
	var all sync.WaitGroup
	sums := make([][32]byte, 20)
	for i := range sums {
		all.Go(func() { sums[i] = s.Add(text(i)).Sum() })
	}
	all.Wait()
	for i, got := range sums {
		if got != sha256.Sum256([]byte("shared"+text(i))) {
			t.Error("P2.1: goroutine", i)
		}
	}
}

func TestSumKeepsArgument(t *testing.T) {
	b := []byte(text(100))
	kept := slices.Clone(b)
	first := hash.Sum(b[:70])
	if !bytes.Equal(b, kept) {
		t.Error("Sum changes its argument")
	}
	clear(b)
	if hash.Sum(kept[:70]) != first {
		t.Error("Sum depends on more than its argument")
	}
}

// wanted returns the digest that P2.2 defines.
func wanted(tag byte, parts ...string) api.Digest {
	b := []byte{tag}
	for _, p := range parts {
		b = append(b, wire.Bytes(p)...)
	}
	sum := sha256.Sum256(b)
	return api.Digest(sum[:16])
}

func TestOf(t *testing.T) {
	if got := inHex(hash.Of(1)); got != "4bf5122f344554c53bde2ebb8cd2b7e3" {
		t.Error("P2.2: Of(1) =", got)
	}
	for _, parts := range [][]string{nil, {""}, {"", ""}, {"a"}, {"ab", "c"}, {"a", "bc"}, {"\x00"}, {text(63)}, {text(64)}, {text(200), "", text(8192)}, make([]string, 100)} {
		for _, tag := range []int{0, 1, 2, 127, 128, 255} {
			if got, want := hash.Of(tag, parts...), wanted(byte(tag), parts...); got != want {
				t.Errorf("P2.2: Of(%d) of %d parts is %x, want %x", tag, len(parts), got, want)
			}
		}
	}
}

func TestTagsAreModulo256(t *testing.T) {
	for _, x := range []struct {
		tag  int
		want byte
	}{
		{256, 0}, {257, 1}, {511, 255}, {1 << 40, 0}, {1<<62 + 7, 7}, {1<<63 - 1, 255},
		{-1, 255}, {-2, 254}, {-128, 128}, {-255, 1}, {-256, 0}, {-257, 255}, {-1 << 63, 0}, {-1<<63 + 3, 3},
	} {
		if got := hash.Of(x.tag, "part"); got != wanted(x.want, "part") {
			t.Errorf("P2.2: Of(%d) is %x, not as for the tag %d", x.tag, got, x.want)
		}
	}
}
