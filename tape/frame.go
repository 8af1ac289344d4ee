package tape

import "bytes"

// head is how many bytes of a frame stand ahead of what it has.
const head = 2

// Frame puts how many ahead of bytes.
func Frame(b []byte) []byte {
	many := len(b)
	return append([]byte{byte(many >> 8), byte(many)}, b...)
}

// Frames of bytes.
func Frames(b []byte) (l [][]byte, n int) {
	for {
		size := first(b[n:])
		if size == 0 {
			return l, n
		}
		l = append(l, bytes.Clone(b[n+head:n+size]))
		n += size
	}
}

// first tells how many bytes the frame has that b begins with; 0: there is no whole one.
func first(b []byte) int {
	if len(b) < head {
		return 0
	}
	size := head + int(b[0])<<8 + int(b[1])
	if size > len(b) {
		return 0
	}
	return size
}
