package varint

import (
	"bytes"
	"encoding/binary"
	"math"
	"slices"
	"testing"

	"crossbar/api"
)

// ten returns nine bytes that another byte follows, and a tenth byte.
func ten(last byte) []byte {
	return append(bytes.Repeat([]byte{0x80}, 9), last)
}

// borders returns the integers on both sides of every power of two.
func borders() []uint64 {
	l := []uint64{300, math.MaxUint64}
	for k := range 64 {
		l = append(l, 1<<k-1, 1<<k, 1<<k+1)
	}
	return l
}

// roomy returns b with spare capacity that is filled with 0xee, and the whole memory.
func roomy(b []byte) (part, whole []byte) {
	whole = append(bytes.Clone(b), bytes.Repeat([]byte{0xee}, 64)...)
	return whole[:len(b)], whole
}

func wantZero[T any](t *testing.T, what string, v T, isZero bool, next int, e, want api.Errno) {
	t.Helper()
	if e != want || !isZero || next != 0 {
		t.Errorf("%s = %v, %d, %d; want the error %d and zero values", what, v, next, e, want)
	}
}

// P1.1: the bytes of the encoding.
func TestAppendUint(t *testing.T) {
	for _, c := range []struct {
		v    uint64
		want []byte
	}{
		{0, []byte{0}},
		{1, []byte{1}},
		{127, []byte{0x7f}},
		{128, []byte{0x80, 1}},
		{300, []byte{0xac, 2}},
		{1<<14 - 1, []byte{0xff, 0x7f}},
		{1 << 14, []byte{0x80, 0x80, 1}},
		{1<<63 - 1, []byte{0xff, 0xff, 0xff, 0xff, 0xff, 0xff, 0xff, 0xff, 0x7f}},
		{1 << 63, []byte{0x80, 0x80, 0x80, 0x80, 0x80, 0x80, 0x80, 0x80, 0x80, 1}},
		{math.MaxUint64, []byte{0xff, 0xff, 0xff, 0xff, 0xff, 0xff, 0xff, 0xff, 0xff, 1}},
	} {
		if got := AppendUint(nil, c.v); !bytes.Equal(got, c.want) {
			t.Errorf("AppendUint(nil, %d) = %x, want %x", c.v, got, c.want)
		}
	}
	for _, v := range borders() {
		if got, want := AppendUint([]byte{9, 8}, v), binary.AppendUvarint([]byte{9, 8}, v); !bytes.Equal(got, want) {
			t.Errorf("AppendUint([9 8], %d) = %x, want %x", v, got, want)
		}
	}
}

// P1.1, P1.3, P1.4: the result is a new slice, and b keeps its bytes, also those beyond its length.
func TestAppendIsNew(t *testing.T) {
	for name, add := range map[string]func(b []byte) []byte{
		"AppendUint":        func(b []byte) []byte { return AppendUint(b, 300) },
		"AppendInt":         func(b []byte) []byte { return AppendInt(b, -300) },
		"AppendBytes":       func(b []byte) []byte { return AppendBytes(b, []byte("abc")) },
		"AppendBytes none":  func(b []byte) []byte { return AppendBytes(b, nil) },
		"AppendString":      func(b []byte) []byte { return AppendString(b, "abc") },
		"AppendString none": func(b []byte) []byte { return AppendString(b, "") },
	} {
		b, whole := roomy([]byte{1, 2, 3})
		before := bytes.Clone(whole)
		first := add(b)
		kept := bytes.Clone(first)
		if !bytes.Equal(whole, before) {
			t.Errorf("%s changed the memory of its argument: %x", name, whole)
		}
		if &first[0] == &b[0] {
			t.Errorf("%s returned the memory of its argument", name)
		}
		add(first)
		AppendUint(first, math.MaxUint64)
		if !bytes.Equal(first, kept) {
			t.Errorf("%s: a later call changed the result to %x", name, first)
		}
	}
	p := []byte("abc")
	b := AppendBytes(nil, p)
	b[1] = 'x'
	if string(p) != "abc" {
		t.Error("AppendBytes returned the memory of p")
	}
}

// P1.2: values and offsets.
func TestUint(t *testing.T) {
	for _, v := range borders() {
		code := binary.AppendUvarint(nil, v)
		b := slices.Concat([]byte{0xff, 0x80}, code, []byte{0xff, 5})
		got, next, e := Uint(b, 2)
		if got != v || next != 2+len(code) || e != api.OK {
			t.Errorf("Uint(%x, 2) = %d, %d, %d; want %d, %d, 0", b, got, next, e, v, 2+len(code))
		}
	}
	got, next, e := Uint([]byte{0xac, 2}, 1)
	if got != 2 || next != 2 || e != api.OK {
		t.Errorf("Uint(ac02, 1) = %d, %d, %d", got, next, e)
	}
}

// uintErrors are inputs of Uint with the errors that P1.2 requires.
var uintErrors = []struct {
	name string
	b    []byte
	at   int
	want api.Errno
}{
	{"negative offset", []byte{1}, -1, api.ErrArg},
	{"least offset", []byte{1}, math.MinInt, api.ErrArg},
	{"negative offset, no input", nil, -1, api.ErrArg},
	{"offset after the end", []byte{1}, 2, api.ErrArg},
	{"greatest offset", []byte{1}, math.MaxInt, api.ErrArg},
	{"no input", nil, 0, api.ErrTruncated},
	{"offset at the end", []byte{1}, 1, api.ErrTruncated},
	{"one byte is missing", []byte{0x80}, 0, api.ErrTruncated},
	{"truncated after an encoding", []byte{1, 0xff, 0xff}, 1, api.ErrTruncated},
	{"nine bytes that another one follows", ten(0)[:9], 0, api.ErrTruncated},
	{"nine bytes at the end", append([]byte{0x80}, ten(0)[:9]...), 1, api.ErrTruncated},
	{"ten bytes that another one follows", ten(0x80), 0, api.ErrOverflow},
	{"ten bytes, all bits set", bytes.Repeat([]byte{0xff}, 10), 0, api.ErrOverflow},
	{"ten bytes and an end", append(ten(0x81), 0), 0, api.ErrOverflow},
	{"ten bytes with an end after the offset", append([]byte{1}, ten(0x80)...), 1, api.ErrOverflow},
	{"tenth byte 2", ten(2), 0, api.ErrOverflow},
	{"tenth byte 3", ten(3), 0, api.ErrOverflow},
	{"tenth byte 127", ten(0x7f), 0, api.ErrOverflow},
	{"tenth byte 0", ten(0), 0, api.ErrEncoding},
	{"second byte 0", []byte{0x80, 0}, 0, api.ErrEncoding},
	{"second byte 0, value above 0", []byte{0xff, 0}, 0, api.ErrEncoding},
	{"third byte 0", []byte{0x80, 0x81, 0, 1}, 0, api.ErrEncoding},
	{"ninth byte 0", append(ten(0)[:8], 0), 0, api.ErrEncoding},
}

// P1.2, P1.3, P1.5: the errors of Uint, and that the other functions report them.
func TestUintErrors(t *testing.T) {
	for _, c := range uintErrors {
		v, next, e := Uint(c.b, c.at)
		wantZero(t, "Uint: "+c.name, v, v == 0, next, e, c.want)
		n, next, e := Int(c.b, c.at)
		wantZero(t, "Int: "+c.name, n, n == 0, next, e, c.want)
		p, next, e := Bytes(c.b, c.at, math.MaxInt)
		wantZero(t, "Bytes: "+c.name, p, p == nil, next, e, c.want)
		s, next, e := String(c.b, c.at, math.MaxInt)
		wantZero(t, "String: "+c.name, s, s == "", next, e, c.want)
	}
}

// P1.3: zigzag values.
func TestInt(t *testing.T) {
	for _, c := range []struct {
		v      int
		zigzag uint64
	}{{0, 0}, {-1, 1}, {1, 2}, {-2, 3}, {2, 4}, {63, 126}, {-64, 127}, {64, 128}, {-65, 129}, {math.MaxInt, math.MaxUint64 - 1}, {math.MinInt, math.MaxUint64}} {
		b := AppendInt([]byte{7}, c.v)
		if want := AppendUint([]byte{7}, c.zigzag); !bytes.Equal(b, want) {
			t.Errorf("AppendInt([7], %d) = %x, want %x", c.v, b, want)
		}
		v, next, e := Int(append(bytes.Clone(b), 1), 1)
		if v != c.v || next != len(b) || e != api.OK {
			t.Errorf("Int(%x, 1) = %d, %d, %d; want %d, %d, 0", b, v, next, e, c.v, len(b))
		}
	}
	for _, u := range borders() {
		for _, v := range []int{int(u), -int(u)} {
			b := AppendInt(nil, v)
			if want := binary.AppendVarint(nil, int64(v)); !bytes.Equal(b, want) {
				t.Errorf("AppendInt(nil, %d) = %x, want %x", v, b, want)
			}
			if got, next, e := Int(b, 0); got != v || next != len(b) || e != api.OK {
				t.Errorf("Int(%x, 0) = %d, %d, %d; want %d", b, got, next, e, v)
			}
		}
	}
}

// P1.4, P1.5: byte strings and strings of lengths with one to three groups, in front of further bytes.
func TestCounted(t *testing.T) {
	for _, n := range []int{0, 1, 2, 127, 128, 300, 16383, 16384} {
		body := bytes.Repeat([]byte{0x80, 0, 'a', 0xff}, n/4+1)[:n]
		want := slices.Concat([]byte{5, 6}, binary.AppendUvarint(nil, uint64(n)), body)
		b := AppendBytes([]byte{5, 6}, body)
		if !bytes.Equal(b, want) {
			t.Errorf("AppendBytes of %d bytes = %x", n, b)
		}
		if s := AppendString([]byte{5, 6}, string(body)); !bytes.Equal(s, want) {
			t.Errorf("AppendString of %d bytes = %x", n, s)
		}
		b = append(b, 1, 2, 3)
		for _, max := range []int{n, n + 1, math.MaxInt} {
			p, next, e := Bytes(b, 2, max)
			if !bytes.Equal(p, body) || next != len(want) || e != api.OK {
				t.Errorf("Bytes of %d bytes with max %d = %x, %d, %d", n, max, p, next, e)
			}
			s, next, e := String(b, 2, max)
			if s != string(body) || next != len(want) || e != api.OK {
				t.Errorf("String of %d bytes with max %d = %q, %d, %d", n, max, s, next, e)
			}
		}
	}
}

// P1.5: the errors, and which one is reported if several apply.
func TestCountedErrors(t *testing.T) {
	huge := AppendUint(nil, math.MaxUint64)
	for _, c := range []struct {
		name    string
		b       []byte
		at, max int
		want    api.Errno
	}{
		{"negative max", []byte{0}, 0, -1, api.ErrArg},
		{"least max", []byte{0}, 0, math.MinInt, api.ErrArg},
		{"negative max before a wrong length", []byte{0x80, 0}, 0, -1, api.ErrArg},
		{"negative max before a truncated length", nil, 0, -1, api.ErrArg},
		{"a wrong length before the limit", ten(2), 0, 0, api.ErrOverflow},
		{"too long", []byte("\x03abc"), 0, 2, api.ErrLimit},
		{"too long for max 0", []byte("\x01a"), 0, 0, api.ErrLimit},
		{"too long before truncated", []byte("\x03ab"), 0, 2, api.ErrLimit},
		{"one byte is missing", []byte("\x03ab"), 0, 3, api.ErrTruncated},
		{"all bytes are missing", []byte{3}, 0, 3, api.ErrTruncated},
		{"one byte is missing after an offset", []byte("xyz\x03ab"), 3, 9, api.ErrTruncated},
		{"a length above every int", huge, 0, math.MaxInt, api.ErrLimit},
		{"the length 2^63", AppendUint(nil, 1<<63), 0, math.MaxInt, api.ErrLimit},
		{"the length 2^63 - 1", AppendUint(nil, math.MaxInt), 0, math.MaxInt, api.ErrTruncated},
	} {
		p, next, e := Bytes(c.b, c.at, c.max)
		wantZero(t, "Bytes: "+c.name, p, p == nil, next, e, c.want)
		s, next, e := String(c.b, c.at, c.max)
		wantZero(t, "String: "+c.name, s, s == "", next, e, c.want)
	}
}

// P1.5 with R2: a result is new memory.
func TestBytesIsNew(t *testing.T) {
	b := []byte("\x03abc")
	p, _, _ := Bytes(b, 0, 3)
	s, _, _ := String(b, 0, 3)
	q, _, _ := Bytes(b, 0, 3)
	p[0] = 'x'
	b[2] = 'y'
	if string(b) != "\x03ayc" || s != "abc" || string(q) != "abc" {
		t.Errorf("after changes of the result %q and of the input %q: %q, %q", p, b, s, q)
	}
}

// noise returns n bytes that depend on seed only, with many of those that matter to the decoder.
func noise(seed uint64, n int) []byte {
	b := make([]byte, n)
	for i := range b {
		seed = seed*6364136223846793005 + 1442695040888963407
		b[i] = byte(seed >> 56)
		switch seed >> 40 % 4 {
		case 0:
			b[i] |= 0x80
		case 1:
			b[i] = []byte{0, 1, 2, 0x80}[seed>>33%4]
		}
	}
	return b
}

// inputs calls f for all byte sequences of up to two bytes, and for many longer ones.
func inputs(f func(b []byte)) {
	f(nil)
	for x := range 256 {
		f([]byte{byte(x)})
		for y := range 256 {
			f([]byte{byte(x), byte(y)})
		}
	}
	for seed := range 20000 {
		b := noise(uint64(seed), 3+seed%10)
		f(b)
		for i := range b[:len(b)-1] { // long encodings are rare otherwise
			b[i] |= 0x80
		}
		f(b)
		f(append(bytes.Clone(b), byte(seed%4)))
	}
}

// P1.6: what is accepted is the encoding of what was decoded.
func TestAcceptedIsCanonical(t *testing.T) {
	inputs(func(b []byte) {
		if v, next, e := Uint(b, 0); e == api.OK && !bytes.Equal(AppendUint(nil, v), b[:next]) {
			t.Errorf("Uint(%x) accepts %x for %d", b, b[:next], v)
		}
		if v, next, e := Int(b, 0); e == api.OK && !bytes.Equal(AppendInt(nil, v), b[:next]) {
			t.Errorf("Int(%x) accepts %x for %d", b, b[:next], v)
		}
		if p, next, e := Bytes(b, 0, len(b)); e == api.OK && !bytes.Equal(AppendBytes(nil, p), b[:next]) {
			t.Errorf("Bytes(%x) accepts %x for %x", b, b[:next], p)
		}
		if s, next, e := String(b, 0, len(b)); e == api.OK && !bytes.Equal(AppendString(nil, s), b[:next]) {
			t.Errorf("String(%x) accepts %x for %q", b, b[:next], s)
		}
	})
}

// P1.6: every proper prefix of an encoding is truncated.
func TestPrefixesAreTruncated(t *testing.T) {
	for _, v := range borders() {
		b := AppendUint(nil, v)
		for k := range b {
			u, next, e := Uint(b[:k], 0)
			wantZero(t, "Uint of a prefix", u, u == 0, next, e, api.ErrTruncated)
			n, next, e := Int(b[:k], 0)
			wantZero(t, "Int of a prefix", n, n == 0, next, e, api.ErrTruncated)
		}
	}
	for _, n := range []int{0, 1, 3, 127, 128, 300} {
		b := AppendBytes(nil, bytes.Repeat([]byte{'a'}, n))
		for k := range b {
			p, next, e := Bytes(b[:k], 0, n)
			wantZero(t, "Bytes of a prefix", p, p == nil, next, e, api.ErrTruncated)
			s, next, e := String(b[:k], 0, n)
			wantZero(t, "String of a prefix", s, s == "", next, e, api.ErrTruncated)
		}
	}
}

// P1.6: values of all kinds in one slice are decoded one after the other.
func TestSequence(t *testing.T) {
	b := AppendString(AppendBytes(AppendInt(AppendUint(nil, 300), -300), []byte{0, 0x80}), "čd")
	u, at, e := Uint(b, 0)
	if u != 300 || e != api.OK {
		t.Fatalf("Uint = %d, %d, %d", u, at, e)
	}
	n, at, e := Int(b, at)
	if n != -300 || e != api.OK {
		t.Fatalf("Int = %d, %d, %d", n, at, e)
	}
	p, at, e := Bytes(b, at, 2)
	if !bytes.Equal(p, []byte{0, 0x80}) || e != api.OK {
		t.Fatalf("Bytes = %x, %d, %d", p, at, e)
	}
	s, at, e := String(b, at, 3)
	if s != "čd" || at != len(b) || e != api.OK {
		t.Fatalf("String = %q, %d, %d", s, at, e)
	}
}
