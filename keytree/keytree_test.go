package keytree

import (
	"bytes"
	"crypto/sha256"
	"encoding/binary"
	"encoding/hex"
	"math"
	"slices"
	"testing"

	"crossbar/api"
	"crossbar/wots"
)

// tagged is a second way to the hash of the parts in a domain.
func tagged(tag string, parts ...[]byte) api.Digest {
	b := append([]byte{byte(len(tag))}, tag...)
	return sha256.Sum256(append(b, slices.Concat(parts...)...))
}

// pair is a second way to the parent of two nodes.
func pair(a, b api.Digest) api.Digest { return tagged("pair", a[:], b[:]) }

// merkle is a second way to the root of a tree, from the root to the leaves.
func merkle(leaves []api.Digest) api.Digest {
	if len(leaves) == 1 {
		return leaves[0]
	}
	half := len(leaves) / 2
	return pair(merkle(leaves[:half]), merkle(leaves[half:]))
}

// wantPath is a second way to the path of a leaf: the roots of the other halves of the aligned blocks around it.
func wantPath(leaves []api.Digest, index int) []api.Digest {
	var path []api.Digest
	for half := 1; half < len(leaves); half *= 2 {
		from := index - index%(2*half)
		if index < from+half {
			from += half
		}
		path = append(path, merkle(leaves[from:from+half]))
	}
	return path
}

// wantLeaves is a second way to the leaves of a seed.
func wantLeaves(t *testing.T, seed []byte) []api.Digest {
	t.Helper()
	var l []api.Digest
	for i := range 4 {
		pub, e := wots.Public(seed, i)
		if e != api.OK {
			t.Fatalf("wots.Public(%x, %d): error %d", seed, i, e)
		}
		l = append(l, pub)
	}
	return l
}

// numbered returns n leaves: the hashes of one byte each.
func numbered(n int) []api.Digest {
	var l []api.Digest
	for i := range n {
		l = append(l, sha256.Sum256([]byte{byte(i)}))
	}
	return l
}

// noise returns a digest that depends on seed only.
func noise(seed int) api.Digest {
	return sha256.Sum256(binary.AppendVarint([]byte("noise"), int64(seed)))
}

// seeds returns seeds at the borders of length and in between.
func seeds() [][]byte {
	counted := make([]byte, 64)
	for i := range counted {
		counted[i] = byte(i)
	}
	return [][]byte{[]byte("seed"), {0}, counted, make([]byte, 63)}
}

// messages returns messages of several lengths, among them none.
func messages() [][]byte {
	return [][]byte{nil, {0}, []byte("hello"), bytes.Repeat([]byte("m"), 1000)}
}

func mustRoot(t *testing.T, seed []byte) api.Digest {
	t.Helper()
	root, e := Root(seed)
	if e != api.OK {
		t.Fatalf("Root(%x): error %d", seed, e)
	}
	return root
}

func mustSign(t *testing.T, seed []byte, index int, msg []byte) api.Sig {
	t.Helper()
	s, e := Sign(seed, index, msg)
	if e != api.OK {
		t.Fatalf("Sign(%x, %d, %x): error %d", seed, index, msg, e)
	}
	return s
}

func mustClimb(t *testing.T, leaf api.Digest, index int, path []api.Digest) api.Digest {
	t.Helper()
	x, e := Climb(leaf, index, path)
	if e != api.OK {
		t.Fatalf("Climb of index %d along %d elements: error %d", index, len(path), e)
	}
	return x
}

// clone returns a signature of its own memory.
func clone(s api.Sig) api.Sig {
	return api.Sig{Index: s.Index, Chains: slices.Clone(s.Chains), Path: slices.Clone(s.Path)}
}

func sameSig(a, b api.Sig) bool {
	return a.Index == b.Index && slices.Equal(a.Chains, b.Chains) && slices.Equal(a.Path, b.Path)
}

// P5.1: the example, and all paths of four leaves.
func TestPath(t *testing.T) {
	l := numbered(4)
	left, right := pair(l[0], l[1]), pair(l[2], l[3])
	for _, c := range []struct {
		leaves []api.Digest
		index  int
		want   []api.Digest
	}{
		{l[:1], 0, nil},
		{l[:2], 0, []api.Digest{l[1]}},
		{l[:2], 1, []api.Digest{l[0]}},
		{l, 0, []api.Digest{l[1], right}},
		{l, 1, []api.Digest{l[0], right}},
		{l, 2, []api.Digest{l[3], left}},
		{l, 3, []api.Digest{l[2], left}},
		{make([]api.Digest, 2), 1, make([]api.Digest, 1)},
	} {
		if got, e := Path(c.leaves, c.index); e != api.OK || !slices.Equal(got, c.want) {
			t.Errorf("Path of leaf %d of %d = %x, %d, want %x", c.index, len(c.leaves), got, e, c.want)
		}
	}
}

// P5.1 and P5.6: every leaf of every tree has its path, and climbing along it leads to the root, which another program computed.
func TestPathOfEveryLeaf(t *testing.T) {
	for n, root := range map[int]string{
		1:  "6e340b9cffb37a989ca544e6bb780a2c78901d3fb33738768511a30617afa01d",
		2:  "97278e500704cfeb91ab9f498617ba557ddbc63d12779b8c643b318d7a68cdf8",
		4:  "28d7c79bc59e8bf1ce0f03b9c08b88f02beed11980ae8889fe1f58ba6a03b186",
		8:  "ec242c4a791513b90ea9030888032347f99c4bcde446873fdd0bdfa7ddd3e98c",
		16: "e432f7bb65487b2ff551348168dc9aa24171e451d57647b755038e841d51df49",
		32: "9178773bd644f7aad19522704a4a67e62687439bfdb5420ea6ba02d9927662b2",
		64: "afbf33922690e96b8e8f790173e77e029ebc73e0711445157fea02ded39a1caa",
	} {
		leaves := numbered(n)
		for i, leaf := range leaves {
			path, e := Path(leaves, i)
			if want := wantPath(leaves, i); e != api.OK || !slices.Equal(path, want) {
				t.Errorf("Path of leaf %d of %d = %x, %d, want %x", i, n, path, e, want)
			}
			x := mustClimb(t, leaf, i, path)
			if got := hex.EncodeToString(x[:]); got != root {
				t.Errorf("leaf %d of %d leads to %s, want %s", i, n, got, root)
			}
		}
	}
}

// P5.1: numbers of leaves that no tree has, and indices that no leaf has.
func TestPathErrors(t *testing.T) {
	whole := make([]api.Digest, 300)
	for n := range 300 {
		wantError := !slices.Contains([]int{1, 2, 4, 8, 16, 32, 64}, n)
		for _, index := range []int{0, n / 2, n - 1} {
			if index < 0 {
				continue
			}
			path, e := Path(whole[:n], index)
			if wantError && (e != api.ErrArg || len(path) != 0) || !wantError && e != api.OK {
				t.Errorf("Path of leaf %d of %d = %x, %d", index, n, path, e)
			}
		}
		for _, index := range []int{math.MinInt, -64, -1, n, n + 1, 64 + n, math.MaxInt} {
			if path, e := Path(whole[:n], index); e != api.ErrArg || len(path) != 0 {
				t.Errorf("Path of leaf %d of %d = %x, %d", index, n, path, e)
			}
		}
	}
	if path, e := Path(nil, 0); e != api.ErrArg || len(path) != 0 {
		t.Errorf("Path of no leaves = %x, %d", path, e)
	}
	if path, e := Path(make([]api.Digest, 1<<16), 3); e != api.ErrArg || len(path) != 0 {
		t.Errorf("Path of 65536 leaves = %x, %d", path, e)
	}
}

// P5.2: every bit of the index says on which side its element stands.
func TestClimb(t *testing.T) {
	for n := range 7 {
		var path []api.Digest
		for i := range n {
			path = append(path, noise(i))
		}
		for index := range 1 << n {
			leaf := noise(1000 + index)
			want := leaf
			for i, x := range path {
				if index>>i&1 == 0 {
					want = pair(want, x)
				} else {
					want = pair(x, want)
				}
			}
			if got, e := Climb(leaf, index, path); e != api.OK || got != want {
				t.Errorf("Climb of index %d along %d elements = %x, %d, want %x", index, n, got, e, want)
			}
		}
	}
}

// P5.2: the examples.
func TestClimbExamples(t *testing.T) {
	a, b := noise(1), noise(2)
	if got, e := Climb(b, 1, []api.Digest{a}); e != api.OK || got != pair(a, b) {
		t.Errorf("Climb(b, 1, [a]) = %x, %d", got, e)
	}
	if got, e := Climb(a, 0, []api.Digest{b}); e != api.OK || got != pair(a, b) {
		t.Errorf("Climb(a, 0, [b]) = %x, %d", got, e)
	}
	if got, e := Climb(a, 0, nil); e != api.OK || got != a {
		t.Errorf("Climb(a, 0, nil) = %x, %d", got, e)
	}
}

// P5.2: paths that are too long, and indices that no leaf of such a path has.
func TestClimbErrors(t *testing.T) {
	for n := range 7 {
		for _, index := range []int{math.MinInt, -1 << n, -1, 1 << n, 1<<n + 1, 1 << 6, 1 << 32, math.MaxInt} {
			if x, e := Climb(noise(1), index, make([]api.Digest, n)); e != api.ErrArg || x != (api.Digest{}) {
				t.Errorf("Climb of index %d along %d elements = %x, %d", index, n, x, e)
			}
		}
	}
	for _, n := range []int{7, 8, 31, 32, 62, 63, 64, 65, 128, 1 << 16} {
		for _, index := range []int{math.MinInt, -1, 0, 1, 63, 64, math.MaxInt} {
			if x, e := Climb(noise(1), index, make([]api.Digest, n)); e != api.ErrArg || x != (api.Digest{}) {
				t.Errorf("Climb of index %d along %d elements = %x, %d", index, n, x, e)
			}
		}
	}
}

// P5.3: roots that another program computed.
func TestRoot(t *testing.T) {
	for i, want := range []string{
		"264b34742472b8fe57414c8602ec277f2af7b243590e2d3c34a96cd19fd9a1ef",
		"dfe5b464b27291e69e36571d43b9b06dfe9d342188a8442a8aaafc245b05c706",
		"1fdcf9a9c36341e0b25859065e0c2d3556ec7965a7270bb2e11472b9c9566536",
	} {
		root := mustRoot(t, seeds()[i])
		if got := hex.EncodeToString(root[:]); got != want {
			t.Errorf("Root(%x) = %s, want %s", seeds()[i], got, want)
		}
	}
}

// P5.3: the root of the four leaves, for seeds of every length.
func TestRootOfEverySeed(t *testing.T) {
	for n := 1; n <= 64; n++ {
		seed := bytes.Repeat([]byte("s"), n)
		if got, want := mustRoot(t, seed), merkle(wantLeaves(t, seed)); got != want {
			t.Errorf("the root of %d bytes = %x, want %x", n, got, want)
		}
	}
}

// P5.3 and P5.4: seeds that are no seeds, and indices that are none.
func TestKeyErrors(t *testing.T) {
	for _, seed := range [][]byte{nil, {}, make([]byte, 65), make([]byte, 1<<16)} {
		if root, e := Root(seed); e != api.ErrArg || root != (api.Digest{}) {
			t.Errorf("Root of %d bytes = %x, %d", len(seed), root, e)
		}
		for _, index := range []int{-1, 0, 3, 4} {
			if s, e := Sign(seed, index, []byte("hello")); e != api.ErrArg || !sameSig(s, api.Sig{}) {
				t.Errorf("Sign with %d bytes and index %d = %v, %d", len(seed), index, s, e)
			}
		}
	}
	for _, index := range []int{math.MinInt, -4, -1, 4, 5, 1023, 1 << 32, math.MaxInt} {
		if s, e := Sign([]byte("seed"), index, []byte("hello")); e != api.ErrArg || !sameSig(s, api.Sig{}) {
			t.Errorf("Sign with index %d = %v, %d", index, s, e)
		}
	}
}

// P5.4: signatures that another program computed.
func TestSignKnown(t *testing.T) {
	for _, c := range []struct {
		index        int
		msg          []byte
		chains       string
		first, above string
	}{
		{
			0, nil,
			"e8ce79e209ed2a5bec468fae50e7bc1697f5f698dc84add8b62996c4d78f478b",
			"ac9d70b5a4655ddf2e703d5df4beefe207625b93abbfdf6a50e07836ed8c79c2",
			"faf55e567408e65bc7a590027b5a505baae04b7def2c0a732e01a09fa7179180",
		},
		{
			2, []byte("hello"),
			"9404f8cfc4859cd493c84c9a37049fc57520aca8c864c27a218b606ef91caaa8",
			"ea73d97131af1a8552a2f1b17825a270f6f46c122a2fde0f45d1e8724c687344",
			"ae75a10690107f460b4d091707cc84da338d6f08a86d2b7decac218949c22f93",
		},
	} {
		s := mustSign(t, []byte("seed"), c.index, c.msg)
		all := sha256.New()
		for _, x := range s.Chains {
			all.Write(x[:])
		}
		if got := hex.EncodeToString(all.Sum(nil)); got != c.chains {
			t.Errorf("the hash of the chains of %q = %s", c.msg, got)
		}
		if len(s.Path) != 2 || hex.EncodeToString(s.Path[0][:]) != c.first || hex.EncodeToString(s.Path[1][:]) != c.above {
			t.Errorf("the path of leaf %d = %x", c.index, s.Path)
		}
	}
}

// P5.4: the index, the chains of the message digest and the path of the leaf.
func TestSign(t *testing.T) {
	for _, seed := range seeds() {
		leaves := wantLeaves(t, seed)
		for index := range 4 {
			for _, msg := range messages() {
				chains, _ := wots.Sign(seed, index, tagged("msg", msg))
				want := api.Sig{Index: index, Chains: chains, Path: wantPath(leaves, index)}
				if got := mustSign(t, seed, index, msg); !sameSig(got, want) {
					t.Errorf("Sign(%x, %d, %x) = %v, want %v", seed, index, msg, got, want)
				}
			}
		}
	}
}

// P5.5: whatever chains and path there are, they verify under the root that they lead to, and under no other.
func TestVerify(t *testing.T) {
	msg := []byte("message")
	for index := range 4 {
		s := api.Sig{Index: index, Path: []api.Digest{noise(100), noise(101)}}
		for i := range 18 {
			s.Chains = append(s.Chains, noise(i))
		}
		leaf, e := wots.Recover(tagged("msg", msg), s.Chains)
		if e != api.OK {
			t.Fatalf("wots.Recover: error %d", e)
		}
		root := mustClimb(t, leaf, index, s.Path)
		if !Verify(root, msg, s) {
			t.Errorf("index %d: the root that the signature leads to is refused", index)
		}
		for i := range root {
			wrong := root
			wrong[i] ^= 1 << (i % 8)
			if Verify(wrong, msg, s) {
				t.Errorf("index %d: byte %d of the root does not matter", index, i)
			}
		}
		if Verify(api.Digest{}, msg, s) || Verify(leaf, msg, s) {
			t.Errorf("index %d: the signature verifies under the zero root or its leaf", index)
		}
	}
}

// P5.5: a path that has not two elements is refused, even under the root that it leads to.
func TestVerifyPathLength(t *testing.T) {
	seed, msg := []byte("seed"), []byte("hello")
	for index := range 4 {
		leaf := wantLeaves(t, seed)[index]
		for n := range 10 {
			if n == 2 {
				continue
			}
			s := mustSign(t, seed, index, msg)
			s.Path = append(s.Path, make([]api.Digest, 8)...)[:n]
			root, _ := Climb(leaf, index, s.Path) // the zero digest beside an error
			if Verify(root, msg, s) || Verify(mustRoot(t, seed), msg, s) || Verify(leaf, msg, s) {
				t.Errorf("index %d: a path of %d elements verifies", index, n)
			}
		}
	}
}

// P5.5: chains that are not 18 are refused, even under the root that the zero digest leads to.
func TestVerifyChainsLength(t *testing.T) {
	seed, msg := []byte("seed"), []byte("hello")
	for n := range 40 {
		if n == 18 {
			continue
		}
		s := mustSign(t, seed, 1, msg)
		s.Chains = append(s.Chains, make([]api.Digest, 40)...)[:n]
		for _, root := range []api.Digest{mustRoot(t, seed), {}, mustClimb(t, api.Digest{}, 1, s.Path)} {
			if Verify(root, msg, s) {
				t.Errorf("%d chains verify", n)
			}
		}
	}
}

// P5.5: an index that is none is refused, also under the zero root.
func TestVerifyIndex(t *testing.T) {
	seed, msg := []byte("seed"), []byte("hello")
	root := mustRoot(t, seed)
	for index := range 4 {
		for _, wrong := range []int{math.MinInt, -4, index - 4, -1, 4, index + 4, 8, 64, 1 << 32, math.MaxInt} {
			s := mustSign(t, seed, index, msg)
			s.Index = wrong
			if Verify(root, msg, s) || Verify(api.Digest{}, msg, s) {
				t.Errorf("the signature of index %d verifies with %d", index, wrong)
			}
		}
	}
	if Verify(api.Digest{}, nil, api.Sig{}) || Verify(api.Digest{}, msg, api.Sig{Index: 4}) {
		t.Error("no signature verifies")
	}
}

// P5.6: every signature verifies under the root of its seed, and neither under another root nor for another message or index.
func TestSignaturesVerify(t *testing.T) {
	var roots []api.Digest
	for _, seed := range seeds() {
		roots = append(roots, mustRoot(t, seed))
	}
	for i, seed := range seeds() {
		for index := range 4 {
			for j, msg := range messages() {
				s := mustSign(t, seed, index, msg)
				for k, root := range roots {
					if got := Verify(root, msg, s); got != (k == i) {
						t.Errorf("a signature of seed %d under root %d: %t", i, k, got)
					}
				}
				for k, other := range messages() {
					if got := Verify(roots[i], other, s); got != (k == j) {
						t.Errorf("a signature of message %d for message %d: %t", j, k, got)
					}
				}
				for other := range 4 {
					s.Index = other
					if got := Verify(roots[i], msg, s); got != (other == index) {
						t.Errorf("a signature of index %d with index %d: %t", index, other, got)
					}
				}
			}
		}
	}
}

// P5.6: damaged and exchanged elements.
func TestDamagedSignatures(t *testing.T) {
	seed, msg := []byte("seed"), []byte("hello")
	root := mustRoot(t, seed)
	for index := range 4 {
		s := mustSign(t, seed, index, msg)
		wantRefused := func(name string, change func(s *api.Sig)) {
			bad := clone(s)
			change(&bad)
			if Verify(root, msg, bad) {
				t.Errorf("index %d: %s: the signature verifies", index, name)
			}
		}
		for i := range s.Chains {
			wantRefused("a damaged chain", func(s *api.Sig) { s.Chains[i][i] ^= 1 })
		}
		for i := range s.Path {
			for at := range 32 {
				wantRefused("a damaged path", func(s *api.Sig) { s.Path[i][at] ^= 0x80 })
			}
		}
		wantRefused("an exchanged path", func(s *api.Sig) { slices.Reverse(s.Path) })
		wantRefused("exchanged chains", func(s *api.Sig) { slices.Reverse(s.Chains) })
		wantRefused("the path of another leaf", func(s *api.Sig) { s.Path = mustSign(t, seed, index^1, msg).Path })
	}
}

// P5.6: another leaf leads to another root: nobody knows two pairs of nodes with the same hash.
func TestOtherLeaves(t *testing.T) {
	leaves := numbered(64)
	for i, leaf := range leaves {
		path := wantPath(leaves, i)
		root := mustClimb(t, leaf, i, path)
		for at := range 32 {
			other := leaf
			other[at] ^= 1 << (i % 8)
			if mustClimb(t, other, i, path) == root {
				t.Errorf("leaf %d with another byte %d leads to the same root", i, at)
			}
		}
		if mustClimb(t, leaves[i^1], i, path) == root {
			t.Errorf("the sibling of leaf %d leads to the same root", i)
		}
	}
}

// R2: arguments keep their contents, those behind their end too.
func TestArgumentsAreKept(t *testing.T) {
	seed := append([]byte("seed"), bytes.Repeat([]byte{0xee}, 100)...)
	msg := append([]byte("hello"), bytes.Repeat([]byte{0xee}, 100)...)
	leaves := numbered(64)
	keptSeed, keptMsg, keptLeaves := bytes.Clone(seed), bytes.Clone(msg), slices.Clone(leaves)
	root := mustRoot(t, seed[:4])
	s := mustSign(t, seed[:4], 2, msg[:5])
	kept := clone(s)
	if !Verify(root, msg[:5], s) || !sameSig(s, kept) {
		t.Error("Verify changed the signature")
	}
	for n := 1; n <= 64; n *= 2 {
		path, _ := Path(leaves[:n], n-1)
		before := slices.Clone(path)
		mustClimb(t, leaves[n-1], n-1, path)
		if !slices.Equal(path, before) {
			t.Errorf("Climb changed its path of %d elements", len(path))
		}
	}
	if !bytes.Equal(seed, keptSeed) || !bytes.Equal(msg, keptMsg) || !slices.Equal(leaves, keptLeaves) {
		t.Error("an argument or what follows it changed")
	}
}

// R2: results are new, and share no memory with arguments or each other.
func TestResultsAreNew(t *testing.T) {
	leaves := numbered(4)
	path, _ := Path(leaves, 1)
	for i := range path {
		path[i] = api.Digest{}
	}
	if !slices.Equal(leaves, numbered(4)) {
		t.Error("a changed path changes the leaves")
	}
	again, _ := Path(leaves, 1)
	if !slices.Equal(again, wantPath(leaves, 1)) {
		t.Errorf("a changed path changes later ones: %x", again)
	}
	s := mustSign(t, []byte("seed"), 1, []byte("hello"))
	kept := clone(s)
	_ = append(s.Chains, noise(1), noise(2))
	s.Chains[0], s.Path[0] = noise(3), noise(4)
	if got := mustSign(t, []byte("seed"), 1, []byte("hello")); !sameSig(got, kept) {
		t.Error("a changed signature changes later ones")
	}
	if s.Path[1] != kept.Path[1] || s.Chains[1] != kept.Chains[1] {
		t.Error("the lists of a signature share memory")
	}
}
