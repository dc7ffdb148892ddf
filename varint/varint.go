// Package varint encodes integers, byte strings and strings as LEB128 varints and decodes them strictly: every value has exactly one accepted encoding. See shared/doc/01-varint.md.
package varint

import "crossbar/api"

const (
	groupBits = 7
	follows   = 0x80 // set in a byte that another byte follows
	maxGroups = 10   // groups of the longest encoding of 64 bits
	lastMax   = 1    // the tenth group has room for one bit only
)

// AppendUint returns a new slice with b and the LEB128 encoding of v.
func AppendUint(b []byte, v uint64) []byte {
	return appendGroups(copyOf(b, maxGroups), v)
}

// Uint decodes the unsigned integer at offset at and returns it with the offset just after it.
func Uint(b []byte, at int) (v uint64, next int, e api.Errno) {
	if at < 0 || at > len(b) {
		return 0, 0, api.ErrArg
	}
	rest := b[at:]
	for i := range maxGroups {
		if i == len(rest) {
			return 0, 0, api.ErrTruncated
		}
		group := rest[i]
		v |= uint64(group&^follows) << (groupBits * i)
		if group&follows != 0 {
			continue
		}
		if e := checkLast(group, i); e != api.OK {
			return 0, 0, e
		}
		return v, at + i + 1, api.OK
	}
	return 0, 0, api.ErrOverflow
}

// AppendInt returns a new slice with b and the encoding of the zigzag value of v.
func AppendInt(b []byte, v int) []byte {
	return AppendUint(b, zigzag(v))
}

// Int decodes the integer at offset at and returns it with the offset just after it.
func Int(b []byte, at int) (v, next int, e api.Errno) {
	u, next, e := Uint(b, at)
	return unzigzag(u), next, e
}

// AppendBytes returns a new slice with b, the length of p, and p.
func AppendBytes(b, p []byte) []byte { return appendCounted(b, p) }

// Bytes decodes the byte string at offset at, which may have at most max bytes, and returns it with the offset just after it.
func Bytes(b []byte, at, max int) (p []byte, next int, e api.Errno) {
	return counted[[]byte](b, at, max)
}

// AppendString returns a new slice with b, the length of s, and s.
func AppendString(b []byte, s string) []byte { return appendCounted(b, s) }

// String decodes the string at offset at, which may have at most max bytes, and returns it with the offset just after it.
func String(b []byte, at, max int) (s string, next int, e api.Errno) {
	return counted[string](b, at, max)
}

// copyOf returns a copy of b with room for more bytes. Appending to b itself could write into memory that the caller uses.
func copyOf(b []byte, more int) []byte {
	return append(make([]byte, 0, len(b)+more), b...)
}

func appendGroups(b []byte, v uint64) []byte {
	for v >= follows {
		b = append(b, byte(v)|follows)
		v >>= groupBits
	}
	return append(b, byte(v))
}

// checkLast checks the group that ends an encoding, which is at index i.
func checkLast(group byte, i int) api.Errno {
	switch {
	case i == maxGroups-1 && group > lastMax:
		return api.ErrOverflow
	case i > 0 && group == 0: // a shorter encoding of the same value exists
		return api.ErrEncoding
	}
	return api.OK
}

// zigzag maps integers near zero, of either sign, to small values. The shift of the sign gives all zeros or all ones.
func zigzag(v int) uint64 { return uint64(v)<<1 ^ uint64(v>>63) }

func unzigzag(u uint64) int { return int(u>>1) ^ -int(u&1) }

func appendCounted[T []byte | string](b []byte, p T) []byte {
	b = appendGroups(copyOf(b, maxGroups+len(p)), uint64(len(p)))
	return append(b, p...)
}

func counted[T []byte | string](b []byte, at, max int) (p T, next int, e api.Errno) {
	if max < 0 {
		return p, 0, api.ErrArg
	}
	n, start, e := Uint(b, at)
	switch {
	case e != api.OK:
		return p, 0, e
	case n > uint64(max):
		return p, 0, api.ErrLimit
	case n > uint64(len(b)-start):
		return p, 0, api.ErrTruncated
	}
	next = start + int(n)
	// The conversion to a string copies, so that the result shares no memory with b.
	return T(string(b[start:next])), next, api.OK
}
