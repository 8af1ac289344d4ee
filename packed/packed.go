// Package packed has how numbers stand in bytes.
package packed

const (
	bits = 7         // of a number in each byte
	more = 1 << bits // stands in each byte but the last
	most = 64 / bits // bytes that may stand ahead of a number's last one
)

// Write gives the bytes of numbers, one behind the other.
func Write(l []int) []byte {
	var b []byte
	for _, n := range l {
		x := fold(n)
		for ; x >= more; x >>= bits {
			b = append(b, byte(x%more)+more)
		}
		b = append(b, byte(x))
	}
	return b
}

// Read gives the number that bytes begin with, and how many they are; 0: they begin with none that Write gives.
func Read(b []byte) (n, long int) {
	var x uint64
	for i, c := range b {
		// Nine bytes have 63 bits, so that a tenth one has the last of 64 alone.
		if i == most && c > 1 {
			return 0, 0
		}
		x += uint64(c%more) << (bits * i)
		if c >= more {
			continue
		}
		if c == 0 && i > 0 {
			return 0, 0
		}
		return unfold(x), i + 1
	}
	return 0, 0
}

// fold lays the numbers below 0 between the others, so that all that are near 0 have few bytes.
func fold(n int) uint64 {
	if n < 0 {
		return 2*uint64(-(n+1)) + 1
	}
	return 2 * uint64(n)
}

func unfold(x uint64) int {
	if x%2 == 1 {
		return -int(x/2) - 1
	}
	return int(x / 2)
}
