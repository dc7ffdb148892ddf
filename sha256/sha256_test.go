package sha256

import (
	"bytes"
	reference "crypto/sha256"
	"encoding/hex"
	"math"
	"math/big"
	"slices"
	"strings"
	"testing"

	"crossbar/api"
)

// noise returns n bytes that depend on seed only.
func noise(seed, n int) []byte {
	state := uint64(seed)
	b := make([]byte, n)
	for i := range b {
		state = state*6364136223846793005 + 1442695040888963407
		b[i] = byte(state >> 56)
	}
	return b
}

// hash is a second way to the hash of the parts, one after the other.
func hash(parts ...[]byte) api.Digest {
	return reference.Sum256(slices.Concat(parts...))
}

// wantSum compares the hash of b with the reference.
func wantSum(t *testing.T, b []byte) {
	t.Helper()
	if got, want := Sum(b), hash(b); got != want {
		t.Errorf("Sum of %d bytes from %x on = %x, want %x", len(b), b[:min(len(b), 8)], got, want)
	}
}

// P3.1: known values.
func TestSum(t *testing.T) {
	for _, c := range []struct{ message, want string }{
		{"", "e3b0c44298fc1c149afbf4c8996fb92427ae41e4649b934ca495991b7852b855"},
		{"a", "ca978112ca1bbdcafac231b39a23dc4da786eff8147c4e72b9807785afee48bb"},
		{"abc", "ba7816bf8f01cfea414140de5dae2223b00361a396177a9cb410ff61f20015ad"},
		{"abcdbcdecdefdefgefghfghighijhijkijkljklmklmnlmnomnopnopq", "248d6a61d20638b8e5c026930c3e6039a33ce45964ff2167f6ecedd419db06c1"},
		{"abcdefghbcdefghicdefghijdefghijkefghijklfghijklmghijklmnhijklmnoijklmnopjklmnopqklmnopqrlmnopqrsmnopqrstnopqrstu", "cf5b16a778af8380036ce59e7b0492370b249b11e8f07a51afac45037afee9d1"},
		{strings.Repeat("a", 1000000), "cdc76e5c9914fb9281a1c7e284d73e67f1809a48a497200e046d39ccc7112cd0"},
	} {
		d := Sum([]byte(c.message))
		if got := hex.EncodeToString(d[:]); got != c.want {
			t.Errorf("Sum of %d bytes = %s, want %s", len(c.message), got, c.want)
		}
	}
	if Sum(nil) != Sum([]byte{}) {
		t.Error("Sum of nil differs from that of an empty slice")
	}
}

// P3.1: every length up to several blocks, so that the padding has every size, and long messages.
func TestSumLengths(t *testing.T) {
	for n := range 1100 {
		wantSum(t, noise(n, n))
		wantSum(t, make([]byte, n))
		wantSum(t, bytes.Repeat([]byte{0xff}, n))
		wantSum(t, bytes.Repeat([]byte{0x80}, n)) // looks like the padding
	}
	for _, n := range []int{1 << 13, 1 << 16, 1 << 20} { // the length in bits gets more bytes
		for _, b := range [][]byte{noise(n, n-1), noise(n, n), noise(n, n+1), noise(n, n-9), noise(n, n-8)} {
			wantSum(t, b)
		}
	}
}

// P3.1: the padding is as short as possible and ends with the length in bits, which may exceed 32 bits.
func TestPadding(t *testing.T) {
	for _, c := range []struct {
		rest, size, zeros int
		length            string
	}{
		{0, 0, 55, "0000000000000000"},
		{1, 1, 54, "0000000000000008"},
		{55, 55, 0, "00000000000001b8"},
		{56, 56, 63, "00000000000001c0"},
		{63, 63, 56, "00000000000001f8"},
		{0, 64, 55, "0000000000000200"},
		{7, 1<<29 - 57, 48, "00000000fffffe38"},
		{0, 1 << 29, 55, "0000000100000000"},
		{63, math.MaxInt32, 56, "00000003fffffff8"},
		{63, 1<<61 - 1, 56, "fffffffffffffff8"},
	} {
		rest := bytes.Repeat([]byte{0xaa}, c.rest)
		length, _ := hex.DecodeString(c.length)
		want := slices.Concat(rest, []byte{0x80}, make([]byte, c.zeros), length)
		if got := padded(rest, c.size); !bytes.Equal(got, want) {
			t.Errorf("the last blocks of %d bytes = %x, want %x", c.size, got, want)
		}
	}
}

// primes returns the first n primes.
func primes(n int) []int64 {
	var l []int64
	for p := int64(2); len(l) < n; p++ {
		if big.NewInt(p).ProbablyPrime(0) {
			l = append(l, p)
		}
	}
	return l
}

// rootFraction returns the first 32 bits of the fractional part of the root of p with that degree, found bit by bit.
func rootFraction(p, degree int64) uint32 {
	scaled := new(big.Int).Lsh(big.NewInt(p), uint(32*degree))
	root := new(big.Int)
	for bit := 40; bit >= 0; bit-- {
		root.SetBit(root, bit, 1)
		if new(big.Int).Exp(root, big.NewInt(degree), nil).Cmp(scaled) > 0 {
			root.SetBit(root, bit, 0)
		}
	}
	return uint32(root.Uint64())
}

// P3.1 and P3.2: the constants are what they are said to be.
func TestConstants(t *testing.T) {
	for i, p := range primes(len(newState())) {
		if got, want := newState()[i], rootFraction(p, 2); got != want {
			t.Errorf("word %d of the first state = %08x, want %08x", i, got, want)
		}
	}
	for i, p := range primes(len(roundConstants)) {
		if got, want := roundConstants[i], rootFraction(p, 3); got != want {
			t.Errorf("constant %d = %08x, want %08x", i, got, want)
		}
	}
}

// P3.2: the functions of words, one bit of each argument at a time.
func TestWordFunctions(t *testing.T) {
	rotated := func(x uint32, n int) uint32 { return x>>n | x<<(32-n) }
	for i := range 32 {
		x := uint32(1) << i
		for _, c := range []struct {
			name      string
			got, want uint32
		}{
			{"s0", smallSigma0(x), rotated(x, 7) ^ rotated(x, 18) ^ (x >> 3)},
			{"s1", smallSigma1(x), rotated(x, 17) ^ rotated(x, 19) ^ (x >> 10)},
			{"S0", bigSigma0(x), rotated(x, 2) ^ rotated(x, 13) ^ rotated(x, 22)},
			{"S1", bigSigma1(x), rotated(x, 6) ^ rotated(x, 11) ^ rotated(x, 25)},
		} {
			if c.got != c.want {
				t.Errorf("%s(%08x) = %08x, want %08x", c.name, x, c.got, c.want)
			}
		}
	}
	// The bits of the arguments run through all combinations of three bits.
	const x, y, z = 0xf0f0f0f0, 0xcccccccc, 0xaaaaaaaa
	if got := choice(x, y, z); got != 0xcacacaca {
		t.Errorf("ch = %08x", got)
	}
	if got := majority(x, y, z); got != 0xe8e8e8e8 {
		t.Errorf("maj = %08x", got)
	}
}

// P3.2: the schedule starts with the big-endian words of the block and extends them.
func TestSchedule(t *testing.T) {
	w := schedule(noise(5, 64))
	for i := range 16 {
		want := new(big.Int).SetBytes(noise(5, 64)[4*i : 4*i+4]).Uint64()
		if uint64(w[i]) != want {
			t.Errorf("word %d = %08x, want %08x", i, w[i], want)
		}
	}
	for i := 16; i < 64; i++ {
		want := smallSigma1(w[i-2]) + w[i-7] + smallSigma0(w[i-15]) + w[i-16]
		if w[i] != want {
			t.Errorf("word %d = %08x, want %08x", i, w[i], want)
		}
	}
}

// P3.2: every bit of a block matters, and is put where it belongs.
func TestSumBits(t *testing.T) {
	for _, fill := range []byte{0, 0xff} {
		for bit := range 8 * 130 {
			b := bytes.Repeat([]byte{fill}, 130)
			b[bit/8] ^= 1 << (bit % 8)
			wantSum(t, b)
		}
	}
	for seed := range 3000 {
		wantSum(t, noise(seed, seed%200))
	}
}

// P3.3: the length of the tag, the tag, and the bytes.
func TestTagged(t *testing.T) {
	bodies := [][]byte{nil, {}, {0}, []byte("b"), noise(1, 63), noise(2, 64), noise(3, 500)}
	for _, tag := range []string{"", "a", "\x00", "tag", "pair", "step", "\xff\x80", "größe", string(noise(4, 64))} {
		for _, b := range bodies {
			want := hash([]byte{byte(len(tag))}, []byte(tag), b)
			if got := Tagged(tag, b); got != want {
				t.Errorf("Tagged(%q, %x) = %x, want %x", tag, b, got, want)
			}
		}
	}
	if got := Tagged("a", []byte("b")); got != Sum([]byte{1, 97, 98}) {
		t.Errorf("Tagged(a, b) = %x", got)
	}
	if Tagged("", nil) != Sum([]byte{0}) {
		t.Error("Tagged of nothing is not the hash of a zero byte")
	}
	if Tagged("ab", []byte("c")) == Tagged("a", []byte("bc")) {
		t.Error("the end of the tag does not matter")
	}
}

// P3.3: of a long tag the first 255 bytes count, also if they end within a character.
func TestTaggedLong(t *testing.T) {
	body := []byte("body")
	for n := range 260 {
		tag := noise(6, n)
		counts := tag[:min(n, 255)]
		want := hash([]byte{byte(len(counts))}, counts, body)
		if got := Tagged(string(tag), body); got != want {
			t.Errorf("Tagged with a tag of %d bytes = %x, want %x", n, got, want)
		}
	}
	for _, tag := range []string{strings.Repeat("t", 256), strings.Repeat("t", 511), strings.Repeat("t", 512), strings.Repeat("ü", 128), strings.Repeat("t", 100000)} {
		want := hash([]byte{255}, []byte(tag)[:255], body)
		if got := Tagged(tag, body); got != want {
			t.Errorf("Tagged with a tag of %d bytes = %x, want %x", len(tag), got, want)
		}
	}
}

// digests returns digests that differ in every way that matters here.
func digests() []api.Digest {
	l := []api.Digest{{}, {1}, {31: 1}, Sum(nil), Sum([]byte("x"))}
	var full api.Digest
	for i := range full {
		full[i] = 0xff
	}
	return append(l, full)
}

// P3.4: both digests count, in their order.
func TestPair(t *testing.T) {
	for i, a := range digests() {
		for j, b := range digests() {
			got := Pair(a, b)
			if want := hash([]byte("\x04pair"), a[:], b[:]); got != want {
				t.Errorf("Pair(%x, %x) = %x, want %x", a, b, got, want)
			}
			if got != Tagged("pair", slices.Concat(a[:], b[:])) {
				t.Errorf("Pair(%x, %x) differs from the tagged hash", a, b)
			}
			if i != j && got == Pair(b, a) {
				t.Errorf("Pair(%x, %x) does not depend on the order", a, b)
			}
		}
	}
}

// P3.5: the number of steps.
func TestChain(t *testing.T) {
	for _, x := range digests() {
		want := x
		for n := range 40 {
			if got := Chain(x, n); got != want {
				t.Errorf("Chain(%x, %d) = %x, want %x", x, n, got, want)
			}
			want = hash([]byte("\x04step"), want[:])
		}
		for _, n := range []int{0, -1, -5, math.MinInt} {
			if got := Chain(x, n); got != x {
				t.Errorf("Chain(%x, %d) = %x", x, n, got)
			}
		}
		if Chain(x, 1) != Tagged("step", x[:]) {
			t.Errorf("Chain(%x, 1) differs from the tagged hash", x)
		}
	}
	want := Sum(nil)
	for range 100000 {
		want = hash([]byte("\x04step"), want[:])
	}
	if got := Chain(Sum(nil), 100000); got != want {
		t.Errorf("a long chain = %x, want %x", got, want)
	}
}

// P3.6: chains compose.
func TestChainsCompose(t *testing.T) {
	x := Sum([]byte("start"))
	for m := range 20 {
		for n := range 20 {
			if Chain(Chain(x, m), n) != Chain(x, m+n) {
				t.Errorf("chains of %d and %d steps do not compose", m, n)
			}
		}
	}
}

// P3.6: the hash of a padded message followed by more bytes, from the hash of the message and its length.
func TestLengthExtension(t *testing.T) {
	for n := range 200 {
		message := noise(n, n)
		more := noise(n+1, n%150)
		front := slices.Concat(message[:n-n%64], padded(message[n-n%64:], n))

		var s state
		d := Sum(message)
		for i := range s {
			s[i] = word(d[4*i:])
		}
		whole := len(more) - len(more)%64
		eachBlock(more[:whole], s.compress)
		eachBlock(padded(more[whole:], len(front)+len(more)), s.compress)
		if got, want := s.digest(), Sum(slices.Concat(front, more)); got != want {
			t.Errorf("%d bytes after a message of %d bytes: %x, want %x", len(more), n, got, want)
		}
	}
}

// R2: the arguments keep their bytes, those behind their end too.
func TestArgumentsKeepTheirBytes(t *testing.T) {
	for n := range 200 {
		all := noise(n, n+200)
		b := all[:n]
		first := Sum(b)
		tagged := Tagged("tag", b)
		if !bytes.Equal(all, noise(n, n+200)) {
			t.Fatalf("the argument of %d bytes or what follows it changed", n)
		}
		if Sum(b) != first || Tagged("tag", b) != tagged {
			t.Errorf("a second call with %d bytes has another result", n)
		}
	}
}
