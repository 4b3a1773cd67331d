// Package row asks what lies in a row of bytes, for the layers that read an image.
package row

// In tells whether n bytes from at on are all in b; the subtraction keeps clear of an overflow of at and n.
func In(b []byte, at, n int) bool {
	return at >= 0 && n >= 0 && at <= len(b)-n
}

// Noughts tells whether n bytes from at on are all in b, and all 0.
func Noughts(b []byte, at, n int) bool {
	if !In(b, at, n) {
		return false
	}
	for _, c := range b[at : at+n] {
		if c != 0 {
			return false
		}
	}
	return true
}
