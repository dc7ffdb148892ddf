package wots

import (
	"bytes"
	"crypto/sha256"
	"encoding/binary"
	"encoding/hex"
	"math"
	"slices"
	"strings"
	"testing"

	"crossbar/api"
)

// tagged is a second way to the hash of the parts in a domain.
func tagged(tag string, parts ...[]byte) api.Digest {
	b := append([]byte{byte(len(tag))}, tag...)
	return sha256.Sum256(append(b, slices.Concat(parts...)...))
}

// advance is a second way to a chain of n steps.
func advance(x api.Digest, n int) api.Digest {
	for range n {
		x = tagged("step", x[:])
	}
	return x
}

// first is a second way to the start of chain i.
func first(seed []byte, index, i int) api.Digest {
	p := binary.AppendUvarint(nil, uint64(index))
	return tagged("wots", binary.AppendUvarint(p, uint64(i)), seed)
}

// joined is a second way to the public key of 18 ends.
func joined(ends []api.Digest) api.Digest {
	var q []byte
	for _, x := range ends {
		q = append(q, x[:]...)
	}
	return tagged("wotspub", q)
}

// wantPublic is a second way to the public key of a seed and an index.
func wantPublic(seed []byte, index int) api.Digest {
	var ends []api.Digest
	for i := range 18 {
		ends = append(ends, advance(first(seed, index, i), 15))
	}
	return joined(ends)
}

// wantNibbles is a second way to the chain lengths, through base-16 text.
func wantNibbles(d api.Digest) []int {
	var l []int
	checksum := 0
	for _, c := range hex.EncodeToString(d[:8]) {
		n := strings.IndexRune("0123456789abcdef", c)
		l = append(l, n)
		checksum += 15 - n
	}
	return append(l, checksum/16, checksum%16)
}

// noise returns a digest that depends on seed only.
func noise(seed int) api.Digest {
	return sha256.Sum256(binary.AppendVarint([]byte("noise"), int64(seed)))
}

func filled(b byte) api.Digest {
	var d api.Digest
	for i := range d {
		d[i] = b
	}
	return d
}

// digests returns digests at both borders and in between.
func digests() []api.Digest {
	l := []api.Digest{{}, filled(0xff), filled(0x0f), filled(0xf0), filled(0x78), {7: 1}, {8: 1}, {31: 1}}
	for i := range 10 {
		l = append(l, noise(i))
	}
	return l
}

type key struct {
	seed  []byte
	index int
}

// keys returns keys at the borders of P4.2 and in between, among them indices of one and of two bytes.
func keys() []key {
	return []key{
		{[]byte{0}, 0},
		{[]byte{0xff}, 1023},
		{[]byte("seed"), 127},
		{[]byte("seed"), 128},
		{[]byte("seed"), 300},
		{bytes.Repeat([]byte("s"), 63), 1022},
		{bytes.Repeat([]byte("s"), 64), 0},
		{make([]byte, 64), 1023},
	}
}

func mustPublic(t *testing.T, k key) api.Digest {
	t.Helper()
	pub, e := Public(k.seed, k.index)
	if e != api.OK {
		t.Fatalf("Public(%x, %d): error %d", k.seed, k.index, e)
	}
	return pub
}

func mustSign(t *testing.T, k key, d api.Digest) []api.Digest {
	t.Helper()
	sig, e := Sign(k.seed, k.index, d)
	if e != api.OK {
		t.Fatalf("Sign(%x, %d, %x): error %d", k.seed, k.index, d, e)
	}
	return sig
}

// P4.1: known chain lengths.
func TestNibbles(t *testing.T) {
	zeros, fifteens := make([]int, 16), slices.Repeat([]int{15}, 16)
	for _, c := range []struct {
		d    api.Digest
		want []int
	}{
		{api.Digest{}, append(slices.Clone(zeros), 15, 0)},
		{filled(0xff), append(slices.Clone(fifteens), 0, 0)},
		{filled(0xf0), append(slices.Repeat([]int{15, 0}, 8), 7, 8)},
		{filled(0x0f), append(slices.Repeat([]int{0, 15}, 8), 7, 8)},
		{api.Digest{0: 0x10}, append(append([]int{1}, zeros[1:]...), 14, 15)},
		{api.Digest{0: 0x01}, append(append([]int{0, 1}, zeros[2:]...), 14, 15)},
		{api.Digest{7: 0xff}, append(append(slices.Clone(zeros[2:]), 15, 15), 13, 2)},
		{api.Digest{0x01, 0x23, 0x45, 0x67, 0x89, 0xab, 0xcd, 0xef}, []int{0, 1, 2, 3, 4, 5, 6, 7, 8, 9, 10, 11, 12, 13, 14, 15, 7, 8}},
		{api.Digest{8: 0xff, 9: 0xff, 31: 0xff}, append(slices.Clone(zeros), 15, 0)},
	} {
		if got := Nibbles(c.d); !slices.Equal(got, c.want) {
			t.Errorf("Nibbles(%x) = %v, want %v", c.d, got, c.want)
		}
	}
}

// P4.1: every value of every signed byte, and many digests; there are always 18 lengths between 0 and 15.
func TestNibblesAll(t *testing.T) {
	l := digests()
	for i := range 8 {
		for v := range 256 {
			d := noise(i)
			d[i] = byte(v)
			l = append(l, d)
		}
	}
	for i := range 5000 {
		l = append(l, noise(i))
	}
	for _, d := range l {
		got := Nibbles(d)
		if !slices.Equal(got, wantNibbles(d)) {
			t.Errorf("Nibbles(%x) = %v, want %v", d, got, wantNibbles(d))
		}
		if len(got) != 18 || slices.Min(got) < 0 || slices.Max(got) > 15 {
			t.Errorf("Nibbles(%x) = %v", d, got)
		}
	}
}

// P4.1: the bytes after the first eight do not count.
func TestNibblesOfTheRest(t *testing.T) {
	want := Nibbles(noise(1))
	for i := 8; i < 32; i++ {
		for bit := range 8 {
			d := noise(1)
			d[i] ^= 1 << bit
			if got := Nibbles(d); !slices.Equal(got, want) {
				t.Errorf("byte %d counts: %v, want %v", i, got, want)
			}
		}
	}
}

// P4.2: keys that another program computed.
func TestPublic(t *testing.T) {
	counted := make([]byte, 64)
	for i := range counted {
		counted[i] = byte(i)
	}
	for _, c := range []struct {
		seed  []byte
		index int
		want  string
	}{
		{[]byte("seed"), 0, "f76336538fbdef21156a2c757324b1893eed6ab8b716bf1557a35e4ea69389ba"},
		{[]byte("seed"), 127, "91f0e92cc1ef13ac51dfa4c1fb7ec5a9773ba591d194a47b2e7220884f29139b"},
		{[]byte("seed"), 128, "1e7957f55026eab371b33de7d42de1f578b5cd4a7b99079c8de67c5d4a2f22e6"},
		{[]byte("seed"), 300, "ab0823309207ed864d5bc3d8d877b6485dae9648accf720a447394437a86c5f1"},
		{[]byte{0}, 0, "df60676beb4309773342d04967527875b6e9551c00336f663d2f4a4424579b08"},
		{counted, 1023, "aabc60ea5dd1155310d5344151b733b988dc1acb03ae0dd2bc2daa64e54dadf0"},
	} {
		pub := mustPublic(t, key{c.seed, c.index})
		if got := hex.EncodeToString(pub[:]); got != c.want {
			t.Errorf("Public(%x, %d) = %s, want %s", c.seed, c.index, got, c.want)
		}
	}
}

// P4.2: the seed, its length and the index all count, and every index has its own key.
func TestPublicOfEveryKey(t *testing.T) {
	known := map[api.Digest]key{}
	note := func(k key) {
		pub := mustPublic(t, k)
		if want := wantPublic(k.seed, k.index); pub != want {
			t.Errorf("Public(%x, %d) = %x, want %x", k.seed, k.index, pub, want)
		}
		if other, ok := known[pub]; ok {
			t.Errorf("the keys %v and %v are the same", k, other)
		}
		known[pub] = k
	}
	for index := range 1024 {
		note(key{[]byte("seed"), index})
	}
	for n := 1; n <= 64; n++ {
		note(key{make([]byte, n), 5})
		note(key{bytes.Repeat([]byte{0xff}, n), 5})
	}
}

// P4.2: a signature that another program computed.
func TestSignKnown(t *testing.T) {
	d := api.Digest(sha256.Sum256([]byte("message")))
	sig := mustSign(t, key{[]byte("seed"), 300}, d)
	all := sha256.New()
	for _, x := range sig {
		all.Write(x[:])
	}
	if got := hex.EncodeToString(all.Sum(nil)); got != "c6c4f222e8655840e48ce5c06d1f869c9513ea49d7ed650ff53a247459a3157e" {
		t.Errorf("the hash of the signature = %s", got)
	}
	for i, want := range map[int]string{
		0:  "284942d1ff32fc5c662844fe8006c3547d162dc99cf82e1812b9221a5b30c8a3",
		17: "958c3f6486f854abfff16fcd5cbf7e1215b28bf398b43dad735d5d1094f37fc5",
	} {
		if got := hex.EncodeToString(sig[i][:]); got != want {
			t.Errorf("chain %d = %s, want %s", i, got, want)
		}
	}
}

// P4.2: every chain is as long as the digest says.
func TestSign(t *testing.T) {
	for _, k := range keys() {
		for _, d := range digests() {
			sig := mustSign(t, k, d)
			if len(sig) != 18 {
				t.Fatalf("Sign(%x, %d, %x) has %d chains", k.seed, k.index, d, len(sig))
			}
			for i, n := range wantNibbles(d) {
				if want := advance(first(k.seed, k.index, i), n); sig[i] != want {
					t.Errorf("Sign(%x, %d, %x): chain %d = %x, want %x", k.seed, k.index, d, i, sig[i], want)
				}
			}
		}
	}
}

// P4.2: seeds and indices that are not admitted.
func TestKeyErrors(t *testing.T) {
	for _, c := range []struct {
		name string
		key
	}{
		{"no seed", key{nil, 0}},
		{"an empty seed", key{[]byte{}, 1023}},
		{"a seed of 65 bytes", key{make([]byte, 65), 0}},
		{"a long seed", key{make([]byte, 1<<16), 1}},
		{"the index -1", key{[]byte("seed"), -1}},
		{"the least index", key{[]byte("seed"), math.MinInt}},
		{"the index 1024", key{[]byte("seed"), 1024}},
		{"the greatest index", key{[]byte("seed"), math.MaxInt}},
		{"an index that is small modulo 2^32", key{[]byte("seed"), 1 << 32}},
		{"neither", key{nil, -1}},
		{"too much of both", key{make([]byte, 65), 1024}},
	} {
		if pub, e := Public(c.seed, c.index); e != api.ErrArg || pub != (api.Digest{}) {
			t.Errorf("%s: Public = %x, %d", c.name, pub, e)
		}
		if sig, e := Sign(c.seed, c.index, noise(1)); e != api.ErrArg || len(sig) != 0 {
			t.Errorf("%s: Sign = %x, %d", c.name, sig, e)
		}
	}
}

// P4.3: any 18 digests give a key, each by the rest of its chain.
func TestRecover(t *testing.T) {
	for round, d := range digests() {
		var sig, ends []api.Digest
		for i, n := range wantNibbles(d) {
			x := noise(100*round + i)
			sig = append(sig, x)
			ends = append(ends, advance(x, 15-n))
		}
		if got, e := Recover(d, sig); e != api.OK || got != joined(ends) {
			t.Errorf("Recover(%x, ...) = %x, %d, want %x", d, got, e, joined(ends))
		}
	}
}

// P4.3 and P4.4: a signature without 18 elements gives no key, and verifies under none, not even the zero key.
func TestSignatureLength(t *testing.T) {
	k := key{[]byte("seed"), 3}
	d := noise(1)
	pub, sig := mustPublic(t, k), mustSign(t, k, d)
	for n := range 40 {
		if n == 18 {
			continue
		}
		wrong := append(slices.Clone(sig), make([]api.Digest, 40)...)[:n]
		if got, e := Recover(d, wrong); e != api.ErrArg || got != (api.Digest{}) {
			t.Errorf("Recover with %d elements = %x, %d", n, got, e)
		}
		if Verify(pub, d, wrong) || Verify(api.Digest{}, d, wrong) {
			t.Errorf("a signature with %d elements verifies", n)
		}
	}
	if got, e := Recover(d, nil); e != api.ErrArg || got != (api.Digest{}) {
		t.Errorf("Recover(d, nil) = %x, %d", got, e)
	}
	if Verify(api.Digest{}, d, nil) {
		t.Error("no signature verifies")
	}
}

// P4.4: a signature verifies under the key that Recover returns, and under no other.
func TestVerify(t *testing.T) {
	d := noise(2)
	var sig []api.Digest
	for i := range 18 {
		sig = append(sig, noise(i))
	}
	pub, e := Recover(d, sig)
	if e != api.OK || !Verify(pub, d, sig) {
		t.Fatalf("the key %x, %d that was recovered does not verify", pub, e)
	}
	for i := range pub {
		for bit := range 8 {
			wrong := pub
			wrong[i] ^= 1 << bit
			if Verify(wrong, d, sig) {
				t.Errorf("bit %d of byte %d of the key does not matter", bit, i)
			}
		}
	}
	if Verify(api.Digest{}, d, sig) {
		t.Error("a signature verifies under the zero key")
	}
}

// P4.5: every signature verifies under its key, and under no other key.
func TestSignaturesVerify(t *testing.T) {
	for i, k := range keys() {
		pub := mustPublic(t, k)
		for j, d := range digests() {
			sig := mustSign(t, k, d)
			if got, e := Recover(d, sig); e != api.OK || got != pub {
				t.Errorf("key %d, digest %d: Recover = %x, %d, want %x", i, j, got, e, pub)
			}
			if !Verify(pub, d, sig) {
				t.Errorf("key %d, digest %d: the signature does not verify", i, j)
			}
			for other, o := range keys() {
				if other != i && Verify(mustPublic(t, o), d, sig) {
					t.Errorf("digest %d: the signature of key %d verifies under key %d", j, i, other)
				}
			}
		}
	}
}

// P4.5: a signature holds for all digests with the same first eight bytes, and for no other.
func TestSignedBytes(t *testing.T) {
	k := key{[]byte("seed"), 9}
	d := noise(3)
	pub, sig := mustPublic(t, k), mustSign(t, k, d)
	for i := range d {
		for bit := range 8 {
			other := d
			other[i] ^= 1 << bit
			if got, want := Verify(pub, other, sig), i >= 8; got != want {
				t.Errorf("bit %d of byte %d changed: %t, want %t", bit, i, got, want)
			}
		}
	}
}

// P4.5: damaged, exchanged and zero elements.
func TestDamagedSignatures(t *testing.T) {
	k := key{[]byte("seed"), 10}
	d := noise(4)
	pub, sig := mustPublic(t, k), mustSign(t, k, d)
	wantRefused := func(name string, i int, change func(s []api.Digest)) {
		s := slices.Clone(sig)
		change(s)
		if Verify(pub, d, s) {
			t.Errorf("%s at chain %d: the signature verifies", name, i)
		}
	}
	for i := range sig {
		for at := range 32 {
			wantRefused("a damaged byte", i, func(s []api.Digest) { s[i][at] ^= 1 << (at % 8) })
		}
		wantRefused("a zero digest", i, func(s []api.Digest) { s[i] = api.Digest{} })
		wantRefused("one step more", i, func(s []api.Digest) { s[i] = advance(s[i], 1) })
		wantRefused("the next element", i, func(s []api.Digest) { s[i], s[(i+1)%18] = s[(i+1)%18], s[i] })
	}
}

// covers reports whether no chain length of a is less than that of b.
func covers(a, b []int) bool {
	for i := range a {
		if a[i] < b[i] {
			return false
		}
	}
	return true
}

// P4.5: only digests with the same signed bytes have chain lengths of which none is less.
func TestNoDigestCoversAnother(t *testing.T) {
	var l []api.Digest
	for i := range 8 {
		for v := range 256 {
			var d api.Digest
			d[i] = byte(v)
			l = append(l, d)
		}
	}
	l = append(l, digests()...)
	for i := range 200 { // digests that differ little
		d := noise(1)
		d[i%8] += byte(i)
		d[(i+1)%8] -= byte(i / 8)
		l = append(l, d)
	}
	var lengths [][]int
	for _, d := range l {
		lengths = append(lengths, Nibbles(d))
	}
	for i, a := range l {
		for j, b := range l {
			same := [8]byte(a[:8]) == [8]byte(b[:8])
			if got := covers(lengths[i], lengths[j]); got != same {
				t.Errorf("%x covers %x: %t", a, b, got)
			}
		}
	}
}

// P4.5: whoever extends the chains that can be extended has no signature of another digest.
func TestExtendedSignatures(t *testing.T) {
	k := key{[]byte("seed"), 11}
	pub := mustPublic(t, k)
	for _, d := range digests() {
		sig, from := mustSign(t, k, d), Nibbles(d)
		for _, other := range digests() {
			forged := slices.Clone(sig)
			for i, n := range Nibbles(other) {
				forged[i] = advance(sig[i], max(n-from[i], 0))
			}
			same := [8]byte(d[:8]) == [8]byte(other[:8])
			if Verify(pub, other, forged) != same {
				t.Errorf("the signature of %x, extended for %x: %t", d, other, !same)
			}
		}
	}
}

// R2: arguments keep their bytes, those behind their end too, and results are new.
func TestMemory(t *testing.T) {
	whole := append([]byte("seed"), bytes.Repeat([]byte{0xee}, 100)...)
	before := bytes.Clone(whole)
	k := key{whole[:4], 12}
	d := noise(5)
	pub, sig := mustPublic(t, k), mustSign(t, k, d)
	if !bytes.Equal(whole, before) {
		t.Errorf("the seed or what follows it changed to %x", whole)
	}
	kept := slices.Clone(sig)
	if !Verify(pub, d, sig) || !slices.Equal(sig, kept) {
		t.Error("Verify changed the signature")
	}
	lengths := Nibbles(d)
	lengths[0]++
	sig[0][0]++
	if !slices.Equal(Nibbles(d), wantNibbles(d)) || !slices.Equal(mustSign(t, k, d), kept) || mustPublic(t, k) != pub {
		t.Error("a changed result changes later ones")
	}
}
