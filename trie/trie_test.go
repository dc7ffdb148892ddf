package trie

import (
	"fmt"
	"maps"
	"math"
	"math/rand"
	"slices"
	"strings"
	"testing"

	"crossbar/api"
)

const maxValue = 1 << 40

// node returns a node with the given children from the digit 0 on.
func node(kids ...int) api.TrieNode {
	var n api.TrieNode
	copy(n.Kids[:], kids)
	return n
}

// valued returns n with a value.
func valued(n api.TrieNode, value int) api.TrieNode {
	n.Value = value
	return n
}

// trieOf returns a trie of the given nodes.
func trieOf(nodes ...api.TrieNode) api.Trie { return api.Trie{Nodes: nodes} }

// clone returns a copy of a trie.
func clone(t api.Trie) api.Trie { return api.Trie{Nodes: slices.Clone(t.Nodes)} }

// chain returns a trie of one path of the digit 7 with n edges, with the value 1 at its end.
func chain(n int) api.Trie {
	t := api.Trie{Nodes: make([]api.TrieNode, n+1)}
	for i := range n {
		t.Nodes[i].Kids[7] = i + 1
	}
	t.Nodes[n].Value = 1
	return t
}

// bush returns a trie of n nodes without values that is as flat as possible, filled level by level.
func bush(n int) api.Trie {
	t := api.Trie{Nodes: make([]api.TrieNode, n)}
	for i := 1; i < n; i++ {
		t.Nodes[(i-1)/10].Kids[(i-1)%10] = i
	}
	return t
}

// put and drop fail the test when an error is reported.
func put(t *testing.T, x api.Trie, prefix string, value int) api.Trie {
	t.Helper()
	y, e := Put(x, prefix, value)
	if e != api.OK {
		t.Fatalf("Put(%q, %d): error %d", prefix, value, e)
	}
	return y
}

func drop(t *testing.T, x api.Trie, prefix string) api.Trie {
	t.Helper()
	y, e := Drop(x, prefix)
	if e != api.OK {
		t.Fatalf("Drop(%q): error %d", prefix, e)
	}
	return y
}

// trieWith returns a trie with the given entries.
func trieWith(t *testing.T, l ...api.PrefixValue) api.Trie {
	t.Helper()
	x := New()
	for _, p := range l {
		x = put(t, x, p.Prefix, p.Value)
	}
	return x
}

// words returns all strings over an alphabet of at most the given length, from the shortest to the longest.
func words(alphabet string, most int) []string {
	l := []string{""}
	for from, n := 0, 0; n < most; n++ {
		to := len(l)
		for _, w := range l[from:to] {
			for _, c := range alphabet {
				l = append(l, w+string(c))
			}
		}
		from = to
	}
	return l
}

// notDigits returns strings that consist of no digits: the neighbours of the digits, signs, space, bytes that are no text, and the digits of other scripts.
func notDigits() []string {
	return []string{"/", ":", "x", "a", "A", "e", "+", "-", "*", "#", ".", " ", "\t", "\n", "\x00", "\x80", "\xb0", "\xb4", "\xff", "\uff11", "\u0661", "\u00b2", "\U0001d7d9", "\ufffd"}
}

// spoilt returns s with something that is no digit in place of, or between, its bytes.
func spoilt(s string) []string {
	var l []string
	for _, x := range notDigits() {
		for i := range len(s) + 1 {
			l = append(l, s[:i]+x+s[i:])
			if i < len(s) {
				l = append(l, s[:i]+x+s[i+1:])
			}
		}
	}
	return l
}

// parents returns the nodes, with repetition, that have k as a child.
func parents(nodes []api.TrieNode, k int) []int {
	var l []int
	for i, n := range nodes {
		for _, kid := range n.Kids {
			if kid == k {
				l = append(l, i)
			}
		}
	}
	return l
}

// wantCheck is a second way to validity, one condition after the other, from the children to their parents.
func wantCheck(nodes []api.TrieNode) api.Errno {
	if len(nodes) > 4096 {
		return api.ErrLimit
	}
	if len(nodes) == 0 {
		return api.ErrArg
	}
	for i, n := range nodes {
		for _, kid := range n.Kids {
			if kid != 0 && (kid <= i || kid >= len(nodes)) {
				return api.ErrArg
			}
		}
		if n.Value < 0 || n.Value > maxValue {
			return api.ErrArg
		}
	}
	for i := 1; i < len(nodes); i++ {
		if len(parents(nodes, i)) != 1 {
			return api.ErrArg
		}
		edges := 0
		for j := i; j != 0; j = parents(nodes, j)[0] {
			edges++
		}
		if edges > 15 {
			return api.ErrArg
		}
	}
	return api.OK
}

// checkCheck checks that every function treats a trie as Check is to do. Where it is not to be refused, it has room for another node.
func checkCheck(t *testing.T, x api.Trie, want api.Errno) {
	t.Helper()
	if e := Check(x); e != want {
		t.Errorf("Check of %d nodes %.99v = %d, want %d", len(x.Nodes), x.Nodes, e, want)
	}
	y, e := Put(x, "7", 1)
	z, f := Drop(x, "7")
	if e != want || f != want {
		t.Errorf("Put and Drop in %d nodes %.99v: %d and %d, want %d", len(x.Nodes), x.Nodes, e, f, want)
	}
	if want == api.OK {
		return
	}
	if y.Nodes != nil || z.Nodes != nil {
		t.Errorf("nodes beside an error: %.99v, %.99v", y.Nodes, z.Nodes)
	}
	if _, e := Put(x, "x", 0); e != want {
		t.Errorf("Put of two bad arguments in %d nodes: %d, want %d", len(x.Nodes), e, want)
	}
	if _, e := Drop(x, "x"); e != want {
		t.Errorf("Drop of a bad argument in %d nodes: %d, want %d", len(x.Nodes), e, want)
	}
	for _, s := range []string{"", "0", "7", "777", strings.Repeat("7", 99)} {
		if v, n, ok := Longest(x, s); v != 0 || n != 0 || ok {
			t.Errorf("Longest(%q) in a bad trie = %d, %d, %v", s, v, n, ok)
		}
		if Extends(x, s) {
			t.Errorf("Extends(%q) in a bad trie", s)
		}
	}
	if l := Entries(x); len(l) != 0 {
		t.Errorf("Entries of a bad trie = %.99v", l)
	}
}

// P7.1: a root without children and value, in memory of its own.
func TestNew(t *testing.T) {
	x := New()
	if !slices.Equal(x.Nodes, []api.TrieNode{{}}) {
		t.Errorf("New() = %v", x)
	}
	x.Nodes[0] = valued(node(5), 1)
	if y := New(); !slices.Equal(y.Nodes, []api.TrieNode{{}}) {
		t.Errorf("New() once more = %v", y)
	}
	checkCheck(t, New(), api.OK)
}

// P7.1: one condition after the other, on both sides of its border.
func TestCheck(t *testing.T) {
	for _, c := range []struct {
		x    api.Trie
		want api.Errno
	}{
		{api.Trie{}, api.ErrArg},
		{trieOf(node()), api.OK},
		{trieOf(node(1), node()), api.OK},
		{trieOf(node(0, 0, 0, 0, 0, 0, 0, 0, 0, 1), node()), api.OK},
		{trieOf(node(3, 2, 1), node(), node(), node()), api.OK},
		{trieOf(node(3, 1), node(0, 2), node(), node()), api.OK}, // level by level or not
		{trieOf(node(1, 2, 3, 4, 5, 6, 7, 8, 9, 10), node(), node(), node(), node(), node(), node(), node(), node(), node(), node()), api.OK},
		{trieOf(node(1)), api.ErrArg},                             // no such node
		{trieOf(node(1, 2), node()), api.ErrArg},                  // no such node
		{trieOf(node(-1)), api.ErrArg},                            // no such node
		{trieOf(node(math.MinInt)), api.ErrArg},                   // no such node
		{trieOf(node(math.MaxInt)), api.ErrArg},                   // no such node
		{trieOf(node(1), node(1)), api.ErrArg},                    // its own child
		{trieOf(node(), node(1)), api.ErrArg},                     // its own child only
		{trieOf(node(2), node(), node(1)), api.ErrArg},            // a child that stands before its parent
		{trieOf(node(1, 3), node(), node(), node(2)), api.ErrArg}, // the same, not first
		{trieOf(node(), node()), api.ErrArg},                      // no parent
		{trieOf(node(1), node(), node()), api.ErrArg},             // no parent
		{trieOf(node(2), node(), node()), api.ErrArg},             // no parent
		{trieOf(node(1), node(), node(3), node()), api.ErrArg},    // no parent, but a child
		{trieOf(node(1, 1), node()), api.ErrArg},                  // a child twice
		{trieOf(node(1, 2), node(3), node(3), node()), api.ErrArg},
		{trieOf(valued(node(), -1)), api.ErrArg},
		{trieOf(valued(node(), 1)), api.OK},
		{trieOf(valued(node(), maxValue)), api.OK},
		{trieOf(valued(node(), maxValue+1)), api.ErrArg},
		{trieOf(valued(node(), math.MaxInt)), api.ErrArg},
		{trieOf(valued(node(), math.MinInt)), api.ErrArg},
		{trieOf(node(1), valued(node(), -1)), api.ErrArg},
		{trieOf(node(1), valued(node(), maxValue+1)), api.ErrArg},
		{chain(1), api.OK},
		{chain(14), api.OK},
		{chain(15), api.OK},
		{chain(16), api.ErrArg},
		{chain(17), api.ErrArg},
		{chain(4095), api.ErrArg},
	} {
		checkCheck(t, c.x, c.want)
		if want := wantCheck(c.x.Nodes); want != c.want {
			t.Errorf("the second way: %d for %.99v", want, c.x)
		}
	}
}

// P7.1: the number of nodes, which counts before what they are.
func TestCheckLimit(t *testing.T) {
	checkCheck(t, bush(4000), api.OK)
	if e := Check(bush(4095)); e != api.OK {
		t.Error(e)
	}
	if e := Check(bush(4096)); e != api.OK {
		t.Error(e)
	}
	checkCheck(t, bush(4097), api.ErrLimit)
	checkCheck(t, api.Trie{Nodes: make([]api.TrieNode, 4096)}, api.ErrArg)
	checkCheck(t, api.Trie{Nodes: make([]api.TrieNode, 4097)}, api.ErrLimit)
	checkCheck(t, api.Trie{Nodes: make([]api.TrieNode, 1<<16)}, api.ErrLimit)
	checkCheck(t, chain(4096), api.ErrLimit)
	for _, i := range []int{0, 1, 2000, 4095} {
		x := bush(4096)
		x.Nodes[i].Value = -1
		checkCheck(t, x, api.ErrArg)
		x = bush(4096)
		x.Nodes[i].Kids[9] = i // its own child, or at the root none, so that a node has no parent
		checkCheck(t, x, api.ErrArg)
	}
}

// P7.1: all tries of up to four nodes with two digits, against the second way.
func TestCheckAllSmall(t *testing.T) {
	for n := range 5 {
		kids := make([]int, 2*n)
		valid := 0
		for {
			x := api.Trie{Nodes: make([]api.TrieNode, n)}
			for i, k := range kids {
				x.Nodes[i/2].Kids[8+i%2] = k
			}
			want := wantCheck(x.Nodes)
			if e := Check(x); e != want {
				t.Errorf("Check(%v) = %d, want %d", x, e, want)
			}
			if want == api.OK {
				valid++
			}
			i := 0
			for i < len(kids) && kids[i] == n {
				kids[i] = 0
				i++
			}
			if i == len(kids) {
				break
			}
			kids[i]++
		}
		// The binary trees whose nodes are numbered so that children come behind their parents: n!.
		if count := []int{0, 1, 2, 6, 24}[n]; valid != count {
			t.Errorf("%d valid tries of %d nodes, want %d", valid, n, count)
		}
	}
}

// P7.1: a change of one child or one value of a valid trie, against the second way.
func TestCheckDamaged(t *testing.T) {
	r := rand.New(rand.NewSource(1))
	for range 300 {
		x := randomTrie(r, 1+r.Intn(60))
		checkCheck(t, x, api.OK)
		for range 20 {
			y := clone(x)
			n := &y.Nodes[r.Intn(len(y.Nodes))]
			switch r.Intn(8) {
			case 0:
				n.Value = []int{-1, maxValue + 1, math.MinInt, math.MaxInt}[r.Intn(4)]
			case 1:
				n.Value = 1 + r.Intn(maxValue)
			default:
				n.Kids[r.Intn(10)] = r.Intn(len(y.Nodes)+3) - 1
			}
			checkCheck(t, y, wantCheck(y.Nodes))
		}
	}
}

// randomTrie returns a valid trie of n nodes whose order and values are arbitrary.
func randomTrie(r *rand.Rand, n int) api.Trie {
	x := New()
	edges := []int{0}
	for len(x.Nodes) < n {
		i, d := r.Intn(len(x.Nodes)), r.Intn(10)
		if r.Intn(2) == 0 {
			i = len(x.Nodes) - 1
		}
		if x.Nodes[i].Kids[d] != 0 || edges[i] == 15 {
			continue
		}
		x.Nodes[i].Kids[d] = len(x.Nodes)
		x.Nodes = append(x.Nodes, api.TrieNode{})
		edges = append(edges, edges[i]+1)
	}
	for i := range x.Nodes {
		if r.Intn(3) == 0 {
			x.Nodes[i].Value = 1 + r.Intn(maxValue)
		}
	}
	return x
}

// names is a second way to the digit strings of the nodes: that of the parent and the digit.
func names(x api.Trie) []string {
	l := make([]string, len(x.Nodes))
	for i, n := range x.Nodes {
		for d, kid := range n.Kids {
			if kid != 0 {
				l[kid] = fmt.Sprint(l[i], d)
			}
		}
	}
	return l
}

// values is a second way to the entries of a trie, as a map.
func values(x api.Trie) map[string]int {
	m := map[string]int{}
	for i, s := range names(x) {
		if v := x.Nodes[i].Value; v != 0 {
			m[s] = v
		}
	}
	return m
}

// checkLookups checks Longest and Extends of strings, and Entries, against a map.
func checkLookups(t *testing.T, x api.Trie, m map[string]int, asked ...string) {
	t.Helper()
	for _, s := range asked {
		value, length, ok := 0, 0, false
		for n := range len(s) + 1 {
			if v, in := m[s[:n]]; in {
				value, length, ok = v, n, true
			}
		}
		if v, n, o := Longest(x, s); v != value || n != length || o != ok {
			t.Errorf("Longest(%.30q) in %.99v = %d, %d, %v, want %d, %d, %v", s, m, v, n, o, value, length, ok)
		}
		extends := false
		for p := range m {
			extends = extends || len(p) > len(s) && strings.HasPrefix(p, s)
		}
		if got := Extends(x, s); got != extends {
			t.Errorf("Extends(%.30q) in %.99v = %v", s, m, got)
		}
	}
	got := Entries(x)
	if len(got) != len(m) {
		t.Errorf("%d entries, want %d", len(got), len(m))
	}
	for i, p := range slices.Sorted(maps.Keys(m)) {
		if i < len(got) && got[i] != (api.PrefixValue{Prefix: p, Value: m[p]}) {
			t.Errorf("entry %d = %v, want %q with %d", i, got[i], p, m[p])
		}
	}
}

// P7.4, P7.5 and P7.6: the example of the chapter.
func TestExample(t *testing.T) {
	x := trieWith(t, api.PrefixValue{Prefix: "49", Value: 1}, api.PrefixValue{Prefix: "4989", Value: 2}, api.PrefixValue{Prefix: "4", Value: 3})
	if v, n, ok := Longest(x, "49891"); v != 2 || n != 4 || !ok {
		t.Error(v, n, ok)
	}
	if v, n, ok := Longest(x, "4711"); v != 3 || n != 1 || !ok {
		t.Error(v, n, ok)
	}
	if !Extends(x, "498") || Extends(x, "4989") {
		t.Error(Extends(x, "498"), Extends(x, "4989"))
	}
	want := []api.PrefixValue{{Prefix: "4", Value: 3}, {Prefix: "49", Value: 1}, {Prefix: "4989", Value: 2}}
	if got := Entries(x); !slices.Equal(got, want) {
		t.Error(got)
	}
}

// P7.2: where new nodes come, and that no others do.
func TestPutNodes(t *testing.T) {
	x := New()
	for _, c := range []struct {
		prefix string
		value  int
		want   []api.TrieNode
	}{
		{"", 5, []api.TrieNode{valued(node(), 5)}},
		{"21", 6, []api.TrieNode{valued(node(0, 0, 1), 5), node(0, 2), valued(node(), 6)}},
		{"2", 7, []api.TrieNode{valued(node(0, 0, 1), 5), valued(node(0, 2), 7), valued(node(), 6)}},
		{"0", 1, []api.TrieNode{valued(node(3, 0, 1), 5), valued(node(0, 2), 7), valued(node(), 6), valued(node(), 1)}},
		{"219", 8, []api.TrieNode{valued(node(3, 0, 1), 5), valued(node(0, 2), 7), valued(node(0, 0, 0, 0, 0, 0, 0, 0, 0, 4), 6), valued(node(), 1), valued(node(), 8)}},
		{"21", maxValue, []api.TrieNode{valued(node(3, 0, 1), 5), valued(node(0, 2), 7), valued(node(0, 0, 0, 0, 0, 0, 0, 0, 0, 4), maxValue), valued(node(), 1), valued(node(), 8)}},
		{"", 9, []api.TrieNode{valued(node(3, 0, 1), 9), valued(node(0, 2), 7), valued(node(0, 0, 0, 0, 0, 0, 0, 0, 0, 4), maxValue), valued(node(), 1), valued(node(), 8)}},
	} {
		x = put(t, x, c.prefix, c.value)
		if !slices.Equal(x.Nodes, c.want) {
			t.Fatalf("Put(%q, %d) = %v, want %v", c.prefix, c.value, x.Nodes, c.want)
		}
	}
	if x := put(t, New(), strings.Repeat("7", 15), 1); !slices.Equal(x.Nodes, chain(15).Nodes) {
		t.Error(x)
	}
}

// P7.2: each error, and which of two comes first.
func TestPutErrors(t *testing.T) {
	ones := func(n int) string { return strings.Repeat("1", n) }
	check := func(x api.Trie, prefix string, value int, want api.Errno) {
		t.Helper()
		if y, e := Put(x, prefix, value); e != want || e != api.OK && y.Nodes != nil {
			t.Errorf("Put(%.30q, %d) = %.99v, %d, want error %d", prefix, value, y, e, want)
		}
	}
	for _, x := range []api.Trie{New(), put(t, New(), "123", 4), bush(4096)} {
		for _, bad := range append(spoilt("123"), ones(16), ones(1<<16), "x"+ones(15), ones(15)+"x") {
			check(x, bad, 1, api.ErrDigits)
			check(x, bad, 0, api.ErrDigits)
		}
		for _, value := range []int{0, -1, math.MinInt, maxValue + 1, math.MaxInt} {
			check(x, "", value, api.ErrArg)
			check(x, "123", value, api.ErrArg)
			check(x, ones(15), value, api.ErrArg)
		}
	}
	for n := range 16 {
		check(New(), ones(n), 1, api.OK)
		check(New(), ones(n), maxValue, api.OK)
	}
	checkLookups(t, put(t, New(), ones(15), 3), map[string]int{ones(15): 3}, "", ones(14), ones(15), ones(16))
}

// P7.2: the limit counts the nodes of the result, so only missing ones matter.
func TestPutLimit(t *testing.T) {
	for free := range 14 {
		x := bush(4096 - free)
		for missing := range 13 {
			prefix := "999" + strings.Repeat("5", missing) // the node of 999 has no children
			y, e := Put(x, prefix, 8)
			if missing > free {
				if e != api.ErrLimit || y.Nodes != nil {
					t.Errorf("%d nodes free, %d missing: error %d with %d nodes", free, missing, e, len(y.Nodes))
				}
				continue
			}
			if e != api.OK || len(y.Nodes) != len(x.Nodes)+missing {
				t.Errorf("%d nodes free, %d missing: error %d with %d nodes", free, missing, e, len(y.Nodes))
			}
			checkLookups(t, y, map[string]int{prefix: 8}, "", "999", "9995", prefix, prefix+"5")
		}
	}
}

// checkNodes checks that the nodes of a trie are those of the given digit strings, in this order, with the values of a map.
func checkNodes(t *testing.T, x api.Trie, order []string, m map[string]int) {
	t.Helper()
	if !slices.Equal(names(x), order) {
		t.Errorf("nodes of %q, want %q", names(x), order)
	}
	for i, s := range order {
		if i < len(x.Nodes) && x.Nodes[i].Value != m[s] {
			t.Errorf("the node of %q has the value %d, want %d", s, x.Nodes[i].Value, m[s])
		}
	}
	if e := Check(x); e != api.OK {
		t.Errorf("Check: %d", e)
	}
}

// randomDigits returns a digit string in which few digits are frequent, so that strings have much in common.
func randomDigits(r *rand.Rand) string {
	b := make([]byte, r.Intn(16))
	for i := range b {
		b[i] = "0012233333456789"[r.Intn(16)]
	}
	return string(b)
}

// P7.2 to P7.7: any operations against a list of nodes and a map of values.
func TestOperations(t *testing.T) {
	r := rand.New(rand.NewSource(2))
	for range 150 {
		x, order, m := New(), []string{""}, map[string]int{}
		for range r.Intn(60) {
			s := randomDigits(r)
			if r.Intn(3) == 0 {
				s = order[r.Intn(len(order))]
			}
			if r.Intn(3) == 0 {
				x = drop(t, x, s)
				delete(m, s)
				continue
			}
			m[s] = 1 + r.Intn(maxValue)
			x = put(t, x, s, m[s])
			for n := range len(s) + 1 {
				if !slices.Contains(order, s[:n]) {
					order = append(order, s[:n])
				}
			}
		}
		checkNodes(t, x, order, m)
		asked := slices.Clone(order)
		for range 30 {
			asked = append(asked, randomDigits(r), order[r.Intn(len(order))]+randomDigits(r))
		}
		checkLookups(t, x, m, asked...)
	}
}

// P7.7: the same entries in all orders, with others in between that are dropped or replaced.
func TestOrder(t *testing.T) {
	m := map[string]int{"": 9, "4": 3, "49": 1, "4989": 2, "0": 5}
	all := append(words("049", 3), "4989", "49891", "498")
	var visit func(x api.Trie, rest []string)
	visit = func(x api.Trie, rest []string) {
		if len(rest) == 0 {
			checkLookups(t, x, m, all...)
		}
		for i, p := range rest {
			y := put(t, x, p, 77)
			y = drop(t, put(t, y, p+"49", 8), p+"49")
			// What was dropped may be one of the entries that were put before.
			for _, q := range slices.Sorted(maps.Keys(m)) {
				if !slices.Contains(rest, q) {
					y = put(t, y, q, m[q])
				}
			}
			visit(put(t, y, p, m[p]), slices.Delete(slices.Clone(rest), i, i+1))
		}
	}
	visit(New(), slices.Sorted(maps.Keys(m)))
}

// P7.3: only the value of the node goes, whatever is above, below or beside it.
func TestDrop(t *testing.T) {
	m := map[string]int{"": 9, "4": 3, "49": 1, "4989": 2, "0": 5}
	x, order := New(), []string{"", "0", "4", "49", "498", "4989"}
	for _, p := range slices.Sorted(maps.Keys(m)) {
		x = put(t, x, p, m[p])
	}
	for _, p := range append(words("0489", 4), "49891", strings.Repeat("4", 15)) {
		less := maps.Clone(m)
		delete(less, p)
		y := drop(t, x, p)
		checkNodes(t, y, order, less)
		checkLookups(t, y, less, words("0489", 5)...)
		checkNodes(t, drop(t, y, p), order, less)
		if _, in := m[p]; !in && !slices.Equal(y.Nodes, x.Nodes) {
			t.Errorf("Drop(%q), which is not stored, changed the trie", p)
		}
	}
	for _, p := range order {
		x = drop(t, x, p)
	}
	checkNodes(t, x, order, nil)
	checkLookups(t, x, nil, words("049", 4)...)
	checkLookups(t, put(t, x, "498", 6), map[string]int{"498": 6}, words("0489", 4)...)
	if y := drop(t, New(), ""); !slices.Equal(y.Nodes, New().Nodes) {
		t.Error(y)
	}
	if y := drop(t, bush(4096), strings.Repeat("9", 15)); len(y.Nodes) != 4096 {
		t.Error(len(y.Nodes))
	}
}

// P7.3: prefixes that are none, whether or not a part of them has a node.
func TestDropErrors(t *testing.T) {
	ones := func(n int) string { return strings.Repeat("1", n) }
	for _, x := range []api.Trie{New(), put(t, New(), "123", 4), put(t, New(), ones(15), 4)} {
		for _, bad := range append(spoilt("123"), ones(16), ones(1<<16), "x"+ones(15), ones(15)+"x") {
			if y, e := Drop(x, bad); e != api.ErrDigits || y.Nodes != nil {
				t.Errorf("Drop(%.30q) = %.99v, %d", bad, y, e)
			}
		}
		for n := range 16 {
			drop(t, x, ones(n))
		}
	}
}

// P7.4 to P7.6: tries whose nodes stand in any order, with children in any order and leaves without values.
func TestLookupsRandom(t *testing.T) {
	r := rand.New(rand.NewSource(3))
	for range 300 {
		x := randomTrie(r, 1+r.Intn(80))
		asked := names(x)
		for _, s := range names(x) {
			asked = append(asked, s+fmt.Sprint(r.Intn(10)), s+randomDigits(r))
		}
		checkLookups(t, x, values(x), asked...)
	}
	for _, n := range []int{1, 11, 1000, 4095, 4096} {
		x := bush(n)
		checkLookups(t, x, nil, "", "0", "999", "9999", "12345")
		x.Nodes[n-1].Value = 6
		last := names(x)[n-1]
		checkLookups(t, x, values(x), "", last, last+"1", "999", "12345")
		for i := range x.Nodes {
			x.Nodes[i].Value = i + 1
		}
		checkLookups(t, x, values(x), "", "0", last, last+"1", "999", "12345")
	}
}

// P7.4 and P7.5: every border of the digits, the root, and nodes without values.
func TestLookups(t *testing.T) {
	m := map[string]int{"": 1, "0": 2, "09": 3, "9": 4, "90": maxValue, strings.Repeat("9", 15): 6}
	x := New()
	for p, v := range m {
		x = put(t, x, p, v)
	}
	asked := append(words("0189", 4), strings.Repeat("9", 14), strings.Repeat("9", 15), strings.Repeat("9", 16))
	checkLookups(t, x, m, asked...)
	delete(m, "")
	checkLookups(t, drop(t, x, ""), m, asked...)
	checkLookups(t, New(), nil, asked...)
	checkLookups(t, put(t, New(), "", 1), map[string]int{"": 1}, asked...)
	checkLookups(t, chain(15), map[string]int{strings.Repeat("7", 15): 1}, "", "7", strings.Repeat("7", 14), strings.Repeat("7", 15), strings.Repeat("7", 16))
}

// P7.4 and P7.5: bytes that are no digits, also where no node is left or none is stored.
func TestLookupsNoDigits(t *testing.T) {
	x := trieWith(t, api.PrefixValue{Prefix: "", Value: 5}, api.PrefixValue{Prefix: "1", Value: 6}, api.PrefixValue{Prefix: "1234", Value: 7})
	for _, s := range []string{"", "1", "12", "123", "1234", "12345", "99999", "1299999999"} {
		for _, bad := range spoilt(s) {
			for _, y := range []api.Trie{x, New(), {}} {
				if v, n, ok := Longest(y, bad); v != 0 || n != 0 || ok {
					t.Errorf("Longest(%q) = %d, %d, %v", bad, v, n, ok)
				}
				if Extends(y, bad) {
					t.Errorf("Extends(%q)", bad)
				}
			}
		}
	}
}

// P7.4 and P7.5: numbers of any length.
func TestLookupsLong(t *testing.T) {
	x := chain(15)
	x.Nodes[0].Value = 3
	for _, n := range []int{15, 16, 17, 20, 21, 100, 1 << 16} {
		s := strings.Repeat("7", n)
		if v, k, ok := Longest(x, s); v != 1 || k != 15 || !ok {
			t.Errorf("Longest of %d digits = %d, %d, %v", n, v, k, ok)
		}
		if v, k, ok := Longest(x, "8"+s); v != 3 || k != 0 || !ok {
			t.Errorf("Longest of %d other digits = %d, %d, %v", n, v, k, ok)
		}
		if v, k, ok := Longest(x, s+"x"); v != 0 || k != 0 || ok {
			t.Errorf("Longest of %d digits and another byte = %d, %d, %v", n, v, k, ok)
		}
		if Extends(x, s) || Extends(x, s+"x") || Extends(x, "8"+s) {
			t.Errorf("Extends of %d digits", n)
		}
	}
}

// P7.6: lexicographic order, which is neither that of the lengths nor that of the nodes.
func TestEntries(t *testing.T) {
	want := []string{"", "0", "00", "01", "1", "10", "123", "1230", "13", "2", "9", "90", "99"}
	r := rand.New(rand.NewSource(4))
	for range 100 {
		x := New()
		for _, i := range r.Perm(len(want)) {
			x = put(t, x, want[i], i+1)
		}
		var got []string
		for i, p := range Entries(x) {
			if p.Value != i+1 {
				t.Errorf("entry %d = %v", i, p)
			}
			got = append(got, p.Prefix)
		}
		if !slices.Equal(got, want) {
			t.Errorf("Entries = %q", got)
		}
	}
	if l := Entries(New()); len(l) != 0 {
		t.Error(l)
	}
	x := trieOf(node(2, 1), valued(node(), 7), valued(node(), 8))
	if l := Entries(x); !slices.Equal(l, []api.PrefixValue{{Prefix: "0", Value: 8}, {Prefix: "1", Value: 7}}) {
		t.Error(l)
	}
}

// R2 and R6: the trie that is passed stays as it is, to the end of its memory; results are memory of their own, also where nothing is changed.
func TestMemory(t *testing.T) {
	left := valued(node(4, 5, 6), 99)
	for _, x := range []api.Trie{New(), chain(3), trieWith(t, api.PrefixValue{Prefix: "", Value: 1}, api.PrefixValue{Prefix: "123", Value: 2}, api.PrefixValue{Prefix: "9", Value: 3})} {
		for _, p := range []string{"", "1", "12", "123", "1234567", "7", "777", "9", "x"} {
			whole := append(slices.Clone(x.Nodes), slices.Repeat([]api.TrieNode{left}, 20)...)
			before := slices.Clone(whole)
			given := api.Trie{Nodes: whole[:len(x.Nodes)]}
			use := func(f func(api.Trie) []api.TrieNode) {
				got := f(given)
				want := slices.Clone(got)
				for i := range got {
					got[i] = left
				}
				_ = append(got, left)
				if again := f(given); !slices.Equal(again, want) {
					t.Errorf("%q: %v, and then %v", p, want, again)
				}
			}
			use(func(y api.Trie) []api.TrieNode { z, _ := Put(y, p, 7); return z.Nodes })
			use(func(y api.Trie) []api.TrieNode { z, _ := Drop(y, p); return z.Nodes })
			Check(given)
			Longest(given, p)
			Extends(given, p)
			clear(Entries(given))
			if !slices.Equal(whole, before) {
				t.Errorf("%q: the nodes %v became %v", p, before, whole)
			}
		}
	}
}
