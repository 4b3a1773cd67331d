// Package le reads and writes numbers and texts in bytes, the lowest byte first.
package le

// U16 reads the two bytes of b from at on.
func U16(b []byte, at int) (int, bool) {
	v, ok := number(b, at, 2)
	return int(v), ok
}

// U32 reads the four bytes of b from at on.
func U32(b []byte, at int) (int, bool) {
	v, ok := number(b, at, 4)
	return int(v), ok
}

// U64 reads the eight bytes of b from at on.
func U64(b []byte, at int) (uint64, bool) {
	return number(b, at, 8)
}

// number reads n bytes of b from at on; false, if they are not all there.
func number(b []byte, at, n int) (uint64, bool) {
	if !lies(b, at, n) {
		return 0, false
	}
	v := uint64(0)
	for i := n - 1; i >= 0; i-- {
		v = v<<8 | uint64(b[at+i])
	}
	return v, true
}

// lies tells whether n bytes from at on are all in b; n is small, at may be any number.
func lies(b []byte, at, n int) bool {
	return at >= 0 && at <= len(b)-n
}

// Text reads the bytes of b from at on up to the first nought, of which there are at most most.
func Text(b []byte, at, most int) (string, bool) {
	if at < 0 || at >= len(b) {
		return "", false
	}
	for i, c := range b[at:] {
		if c == 0 {
			return string(b[at : at+i]), true
		}
		if i >= most {
			break
		}
	}
	return "", false
}

// Put writes the lowest n bytes of v into b from at on; false, and nothing, if they do not go in.
func Put(b []byte, at, n int, v uint64) bool {
	if n < 1 || n > 8 || !lies(b, at, n) {
		return false
	}
	for i := range n {
		b[at+i] = byte(v >> (8 * i))
	}
	return true
}

// Bytes tells the lowest n bytes of v.
func Bytes(v uint64, n int) []byte {
	n = min(max(n, 0), 8)
	b := make([]byte, n)
	for i := range n {
		b[i] = byte(v >> (8 * i))
	}
	return b
}
