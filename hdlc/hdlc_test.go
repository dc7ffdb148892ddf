package hdlc

import (
	"bytes"
	"math"
	"slices"
	"testing"

	"crossbar/api"
)

// slowFCS follows the words of P2.1 bit by bit.
func slowFCS(b []byte) uint16 {
	v := uint16(0xffff)
	for _, c := range b {
		v ^= uint16(c)
		for range 8 {
			out := v & 1
			v >>= 1
			if out == 1 {
				v ^= 0x8408
			}
		}
	}
	return v ^ 0xffff
}

// stuffed replaces flags and escapes in b.
func stuffed(b []byte) []byte {
	b = bytes.ReplaceAll(b, []byte{0x7d}, []byte{0x7d, 0x5d})
	return bytes.ReplaceAll(b, []byte{0x7e}, []byte{0x7d, 0x5e})
}

// checked returns p with its frame check sequence.
func checked(p []byte) []byte {
	sum := slowFCS(p)
	return append(bytes.Clone(p), byte(sum), byte(sum>>8))
}

// between returns the content with a flag at both ends.
func between(content ...byte) []byte {
	return append(append([]byte{0x7e}, content...), 0x7e)
}

// frame is a second way to the frame of p.
func frame(p []byte) []byte { return between(stuffed(checked(p))...) }

// noise returns n bytes that depend on seed only, many of which matter to framing.
func noise(seed, n int) []byte {
	state := uint64(seed)
	b := make([]byte, n)
	for i := range b {
		state = state*6364136223846793005 + 1442695040888963407
		b[i] = byte(state >> 56)
		if state>>40%3 == 0 {
			b[i] = []byte{0x7e, 0x7d, 0x5e, 0x5d, 0x20, 0}[state>>33%6]
		}
	}
	return b
}

// withSum returns a payload of two bytes whose frame check sequence fits.
func withSum(t *testing.T, fits func(low, high byte) bool) []byte {
	t.Helper()
	for i := range 1 << 16 {
		p := []byte{byte(i), byte(i >> 8)}
		if sum := slowFCS(p); fits(byte(sum), byte(sum>>8)) {
			return p
		}
	}
	t.Fatal("no payload of two bytes has such a frame check sequence")
	return nil
}

// special returns payloads with flags and escapes in the payload, and in either byte of the frame check sequence.
func special(t *testing.T) [][]byte {
	l := [][]byte{
		nil, {0}, {0x7e}, {0x7d}, {0x5e}, {0x5d}, {0x20},
		{0x7d, 0x5e}, {0x7d, 0x5d}, {0x7e, 0x7d}, {0x7d, 0x7d, 0x7e, 0x7e},
		[]byte("123456789"),
	}
	for _, c := range []byte{0x7e, 0x7d} {
		l = append(l,
			withSum(t, func(low, _ byte) bool { return low == c }),
			withSum(t, func(_, high byte) bool { return high == c }))
	}
	return l
}

// payloads calls f for the special payloads, all payloads of one byte, and many longer ones.
func payloads(t *testing.T, f func(p []byte)) {
	for _, p := range special(t) {
		f(p)
	}
	for c := range 256 {
		f([]byte{byte(c)})
	}
	for seed := range 600 {
		f(noise(seed, seed%300))
	}
	f(noise(1, api.MaxFrame))
	f(bytes.Repeat([]byte{0x7e}, api.MaxFrame))
	f(bytes.Repeat([]byte{0x7d}, api.MaxFrame))
	f(make([]byte, api.MaxFrame))
}

// P2.1: known values, and the bit by bit definition.
func TestFCS(t *testing.T) {
	for s, want := range map[string]uint16{
		"": 0, "\x7e": 0x6a81, "a": 0x82f7, "\x01\x02": 0x358d, "123456789": 0x906e,
	} {
		if got := FCS([]byte(s)); got != want {
			t.Errorf("FCS(%q) = %#04x, want %#04x", s, got, want)
		}
	}
	payloads(t, func(p []byte) {
		if got, want := FCS(p), slowFCS(p); got != want {
			t.Errorf("FCS(%x) = %#04x, want %#04x", p, got, want)
		}
	})
	long := noise(2, 100000) // longer than any payload
	if got, want := FCS(long), slowFCS(long); got != want {
		t.Errorf("FCS of %d bytes = %#04x, want %#04x", len(long), got, want)
	}
}

// P2.2: the bytes of frames.
func TestEncode(t *testing.T) {
	for _, c := range []struct{ p, want []byte }{
		{nil, []byte{0x7e, 0, 0, 0x7e}},
		{[]byte{}, []byte{0x7e, 0, 0, 0x7e}},
		{[]byte{0x7e}, []byte{0x7e, 0x7d, 0x5e, 0x81, 0x6a, 0x7e}},
		{[]byte{1, 2}, []byte{0x7e, 1, 2, 0x8d, 0x35, 0x7e}},
		{[]byte("123456789"), []byte("\x7e123456789\x6e\x90\x7e")},
	} {
		if got, e := Encode(c.p); !bytes.Equal(got, c.want) || e != api.OK {
			t.Errorf("Encode(%x) = %x, %d; want %x, 0", c.p, got, e, c.want)
		}
	}
	payloads(t, func(p []byte) {
		if got, e := Encode(p); !bytes.Equal(got, frame(p)) || e != api.OK {
			t.Errorf("Encode(%x) = %x, %d; want %x, 0", p, got, e, frame(p))
		}
	})
}

// P2.2: the limit concerns the payload, not its stuffed form.
func TestEncodeLimit(t *testing.T) {
	for _, c := range []byte{0, 0x7e} {
		p := bytes.Repeat([]byte{c}, api.MaxFrame+1)
		if f, e := Encode(p[1:]); !bytes.Equal(f, frame(p[1:])) || e != api.OK {
			t.Errorf("Encode of the longest payload of %x: %d bytes, %d", c, len(f), e)
		}
		if f, e := Encode(p); f != nil || e != api.ErrLimit {
			t.Errorf("Encode of one byte %x too many: %d bytes, %d", c, len(f), e)
		}
	}
	if f, e := Encode(make([]byte, 1<<20)); f != nil || e != api.ErrLimit {
		t.Errorf("Encode of a mebibyte: %d bytes, %d", len(f), e)
	}
}

// P2.3: the payload and the offset after the frame, wherever it stands.
func TestDecode(t *testing.T) {
	payloads(t, func(p []byte) {
		f := frame(p)
		for _, before := range []string{"", "\x00", "\x7e", "\x7d", "abc\x7e"} {
			b := slices.Concat([]byte(before), f, []byte("\x7e\x01"))
			got, next, e := Decode(b, len(before))
			if !bytes.Equal(got, p) || next != len(before)+len(f) || e != api.OK {
				t.Errorf("Decode(%x, %d) = %x, %d, %d; want %x", b, len(before), got, next, e, p)
			}
		}
	})
}

// fcsOff is a frame whose frame check sequence is wrong.
func fcsOff(p []byte) []byte {
	c := checked(p)
	c[len(c)-1] ^= 1
	return between(stuffed(c)...)
}

// P2.3: the errors, and which one is reported if several apply.
func TestDecodeErrors(t *testing.T) {
	whole := []byte{0x7e, 1, 2, 0x8d, 0x35, 0x7e}
	for _, c := range []struct {
		name string
		b    []byte
		at   int
		want api.Errno
	}{
		{"negative offset", whole, -1, api.ErrArg},
		{"least offset", whole, math.MinInt, api.ErrArg},
		{"offset at the end", whole, 6, api.ErrArg},
		{"offset after the end", whole, 7, api.ErrArg},
		{"greatest offset", whole, math.MaxInt, api.ErrArg},
		{"no input", nil, 0, api.ErrArg},
		{"no flag at the offset", whole, 1, api.ErrFrame},
		{"no flag at the offset, and none follows", []byte{1, 2, 3}, 0, api.ErrFrame},
		{"an escape at the offset", []byte{0x7d, 0x5e, 0, 0, 0x7e}, 0, api.ErrFrame},
		{"the closing flag", whole, 5, api.ErrTruncated},
		{"only a flag", []byte{0x7e}, 0, api.ErrTruncated},
		{"no closing flag", whole[:5], 0, api.ErrTruncated},
		{"not well-formed, no closing flag", []byte{0x7e, 0x7d, 0x7d}, 0, api.ErrTruncated},
		{"too long, no closing flag", append([]byte{0x7e}, make([]byte, 2*api.MaxFrame)...), 0, api.ErrTruncated},
		{"a flag only before the offset", []byte{0x7e, 0, 0, 0x7e, 0, 0}, 3, api.ErrTruncated},
		{"an empty content", between(), 0, api.ErrFrame},
		{"a content of one byte", between(0), 0, api.ErrFrame},
		{"a content of one stuffed byte", between(0x7d, 0x5e), 0, api.ErrFrame},
		{"a wrong check of nothing", between(0, 1), 0, api.ErrFcs},
		{"an escape at the end", between(0, 0, 0x7d), 0, api.ErrFrame},
		{"only an escape", between(0x7d), 0, api.ErrFrame},
		{"an escape at the end after a valid content", between(1, 2, 0x8d, 0x35, 0x7d), 0, api.ErrFrame},
		{"an escape of an escape", between(0x7d, 0x7d, 0x5e, 0, 0), 0, api.ErrFrame},
		{"an escape of an unstuffed byte", between(0x7d, 0x21, 0, 0), 0, api.ErrFrame},
		{"the bytes of the check in the other order", between(1, 2, 0x35, 0x8d), 0, api.ErrFcs},
		{"the low byte of the check differs", between(1, 2, 0x8c, 0x35), 0, api.ErrFcs},
		{"the high byte of the check differs", between(1, 2, 0x8d, 0x34), 0, api.ErrFcs},
		{"a payload that differs", between(1, 3, 0x8d, 0x35), 0, api.ErrFcs},
		{"not the complement", between(0xff, 0xff), 0, api.ErrFcs},
		{"a damaged frame in front of a good one", slices.Concat(fcsOff([]byte("ab")), whole), 0, api.ErrFcs},
	} {
		p, next, e := Decode(c.b, c.at)
		if p != nil || next != 0 || e != c.want {
			t.Errorf("%s: Decode = %x, %d, %d; want the error %d and zero values", c.name, p, next, e, c.want)
		}
	}
}

// P2.3: only the stuffed flag and the stuffed escape may follow an escape, although the rest of the frame is right for the other bytes too.
func TestDecodeEscapes(t *testing.T) {
	for c := range 256 {
		plain := checked([]byte{byte(c) ^ 0x20})
		b := between(slices.Concat([]byte{0x7d, byte(c)}, stuffed(plain[1:]))...)
		p, next, e := Decode(b, 0)
		good := c == 0x5e || c == 0x5d
		if good && (!bytes.Equal(p, plain[:1]) || next != len(b) || e != api.OK) {
			t.Errorf("Decode(%x, 0) = %x, %d, %d; want %x", b, p, next, e, plain[:1])
		}
		if !good && (p != nil || next != 0 || e != api.ErrFrame) {
			t.Errorf("Decode(%x, 0) = %x, %d, %d; want the error %d", b, p, next, e, api.ErrFrame)
		}
	}
}

// P2.3: the limits concern the unstuffed content.
func TestDecodeLimits(t *testing.T) {
	for _, c := range []byte{0, 0x7e, 0x7d} {
		p := bytes.Repeat([]byte{c}, api.MaxFrame+1)
		if got, next, e := Decode(frame(p[1:]), 0); !bytes.Equal(got, p[1:]) || next != len(frame(p[1:])) || e != api.OK {
			t.Errorf("Decode of the longest payload of %x: %d bytes, %d, %d", c, len(got), next, e)
		}
		if _, _, e := Decode(fcsOff(p[1:]), 0); e != api.ErrFcs {
			t.Errorf("Decode of the longest payload of %x with a wrong check: %d", c, e)
		}
		for _, b := range [][]byte{frame(p), fcsOff(p), frame(append(p, p...))} {
			if got, next, e := Decode(b, 0); got != nil || next != 0 || e != api.ErrFrame {
				t.Errorf("Decode of a payload of %x that is too long: %d bytes, %d, %d", c, len(got), next, e)
			}
		}
		longest := frame(p[1:])
		b := append(longest[:len(longest)-1], 0x7d, 0x7e)
		if _, _, e := Decode(b, 0); e != api.ErrFrame {
			t.Errorf("Decode of the longest content of %x and an escape: %d", c, e)
		}
	}
}

// P2.3 with R2: the payload is new memory, and the arguments keep their bytes.
func TestNoSharing(t *testing.T) {
	p := []byte("a~b")
	f, _ := Encode(p)
	if string(p) != "a~b" {
		t.Errorf("Encode changed its argument to %q", p)
	}
	g := bytes.Clone(f)
	q, _, _ := Decode(g, 0)
	l, _ := Scan(g)
	if !bytes.Equal(g, f) {
		t.Errorf("the decoders changed their argument to %x", g)
	}
	clear(g)
	if string(q) != "a~b" || string(l[0]) != "a~b" {
		t.Errorf("after a change of the input: %q, %q", q, l[0])
	}
	clear(q)
	if g, _ = Encode(p); !bytes.Equal(f, g) || string(l[0]) != "a~b" {
		t.Errorf("after a change of a result: %x, %q", g, l[0])
	}
	l, _ = Scan(slices.Concat(frame([]byte("ab")), frame([]byte("cd"))))
	if l[0] = append(l[0], "xyz"...); string(l[1]) != "cd" {
		t.Errorf("the second payload after a change of the first one: %q", l[1])
	}
}

// wantScan compares the results of Scan with the payloads and the offset that are required.
func wantScan(t *testing.T, b []byte, want [][]byte, used int) {
	t.Helper()
	l, n := Scan(b)
	if !slices.EqualFunc(l, want, bytes.Equal) || n != used {
		t.Errorf("Scan(%x) = %x, %d; want %x, %d", b, l, n, want, used)
	}
}

// P2.4: what is returned, what is omitted, and what is used.
func TestScan(t *testing.T) {
	a, b := []byte("a"), []byte("~}")
	fa, fb := frame(a), frame(b)
	bad := fcsOff([]byte("xyz"))
	for _, c := range []struct {
		name string
		b    []byte
		want [][]byte
		used int
	}{
		{"no input", nil, nil, 0},
		{"no flag", []byte("noise\x7d"), nil, 6},
		{"only a flag", []byte{0x7e}, nil, 0},
		{"a flag after noise", []byte("noise~"), nil, 5},
		{"adjacent flags", []byte("~~~~"), nil, 3},
		{"a frame", fa, [][]byte{a}, len(fa) - 1},
		{"an empty payload", frame(nil), [][]byte{{}}, 3},
		{"two frames", slices.Concat(fa, fb), [][]byte{a, b}, len(fa) + len(fb) - 1},
		{"two frames that share a flag", slices.Concat(fa, fb[1:]), [][]byte{a, b}, len(fa) + len(fb) - 2},
		{"flags around a frame", slices.Concat([]byte("~~"), fa, []byte("~~")), [][]byte{a}, len(fa) + 3},
		{"noise in front", slices.Concat([]byte("no"), fa), [][]byte{a}, len(fa) + 1},
		{"a frame without its flag in front", slices.Concat(fb[1:], fa), [][]byte{a}, len(fa) + len(fb) - 2},
		{"noise between", slices.Concat(fa, []byte("noise"), fb), [][]byte{a, b}, len(fa) + len(fb) + 4},
		{"a valid content between", slices.Concat(fa, fa[1:4], fb), [][]byte{a, a, b}, len(fa) + len(fb) + 2},
		{"a wrong check", slices.Concat(bad, fb), [][]byte{b}, len(bad) + len(fb) - 1},
		{"a wrong check at the end", slices.Concat(fb, bad), [][]byte{b}, len(bad) + len(fb) - 1},
		{"not well-formed", slices.Concat(between(0x7d), fb, between(0, 0, 0x7d), fa), [][]byte{b, a}, len(fa) + len(fb) + 7},
		{"too long", slices.Concat(frame(make([]byte, api.MaxFrame+1)), fb), [][]byte{b}, api.MaxFrame + 5 + len(fb) - 1},
		{"the longest", frame(make([]byte, api.MaxFrame)), [][]byte{make([]byte, api.MaxFrame)}, api.MaxFrame + 3},
		{"an unfinished frame", slices.Concat(fa, fb[:4]), [][]byte{a}, len(fa)},
		{"noise behind", slices.Concat(fa, []byte{1, 2, 3}), [][]byte{a}, len(fa) - 1},
		{"no closing flag", fa[:4], nil, 0},
	} {
		l, used := Scan(c.b)
		if !slices.EqualFunc(l, c.want, bytes.Equal) || used != c.used {
			t.Errorf("%s: Scan(%x) = %x, %d; want %x, %d", c.name, c.b, l, used, c.want, c.used)
		}
	}
}

// stream returns noise with good and damaged frames in it.
func stream(seed int) []byte {
	var b []byte
	for k := range seed % 9 {
		f := frame(noise(seed+k, seed%7*k))
		switch (seed + k) % 5 {
		case 0:
			f[len(f)/2] ^= 1
		case 1:
			f = f[1:]
		case 2:
			f = append(f, noise(seed-k, k)...)
		}
		b = append(b, f...)
	}
	return append(b, noise(seed, seed%11)...)
}

// P2.4: the payloads are those that Decode returns at each flag that another one follows.
func TestScanAgreesWithDecode(t *testing.T) {
	for seed := range 4000 {
		b := stream(seed)
		var want [][]byte
		used := len(b)
		for at, c := range b {
			if c != 0x7e {
				continue
			}
			used = at
			if p, _, e := Decode(b, at); e == api.OK {
				want = append(want, p)
			}
		}
		wantScan(t, b, want, used)
	}
}

// P2.5: decoding a frame returns the payload, and flags are at its ends only.
func TestRoundTrip(t *testing.T) {
	payloads(t, func(p []byte) {
		f, e := Encode(p)
		if e != api.OK || f[0] != 0x7e || bytes.IndexByte(f[1:], 0x7e) != len(f)-2 {
			t.Errorf("Encode(%x) = %x, %d", p, f, e)
		}
		got, next, e := Decode(f, 0)
		if !bytes.Equal(got, p) || next != len(f) || e != api.OK {
			t.Errorf("Decode(%x, 0) = %x, %d, %d; want %x", f, got, next, e, p)
		}
		wantScan(t, f, [][]byte{p}, len(f)-1)
	})
}

// P2.5: a payload with up to two consecutive bytes changed does not fit the frame check sequence.
func TestChangesAreDetected(t *testing.T) {
	for _, p := range special(t) {
		sum := checked(p)[len(p):]
		for at := range p {
			for change := 1; change < 1<<16; change++ {
				if at+1 == len(p) && change > 0xff || change > 0xff && change%7 != 0 {
					continue
				}
				q := bytes.Clone(p)
				q[at] ^= byte(change)
				if change > 0xff {
					q[at+1] ^= byte(change >> 8)
				}
				_, _, e := Decode(between(stuffed(slices.Concat(q, sum))...), 0)
				if e != api.ErrFcs {
					t.Fatalf("%x instead of %x: the error %d", q, p, e)
				}
			}
		}
	}
}

// P2.5: a stream that is scanned in pieces gives what it gives as a whole.
func TestPieces(t *testing.T) {
	for seed := range 400 {
		b := stream(seed)
		want, _ := Scan(b)
		for _, size := range []int{1, 2, 3, 7, 50} {
			var got [][]byte
			var rest []byte
			for piece := range slices.Chunk(b, size) {
				rest = append(rest, piece...)
				l, used := Scan(rest)
				got = append(got, l...)
				rest = bytes.Clone(rest[used:])
			}
			if !slices.EqualFunc(got, want, bytes.Equal) {
				t.Errorf("Scan(%x) in pieces of %d bytes = %x, want %x", b, size, got, want)
			}
		}
	}
}
