// Package fix has numbers with a part.
package fix

import "marchland/api"

const (
	part  = 16 // bits that a number has for its part
	limit = 1 << 40

	// A greater product would round beyond limit; up to it none overflows an int.
	mostProduct = (limit+1)<<part - 1
)

// Of a whole number.
func Of(n int) (int, error) {
	if !within(n, api.MaxNumber) {
		return 0, api.ErrRange
	}
	return n << part, nil
}

// Whole number that is not above one.
func Whole(x int) int { return x >> part }

// Mul multiplies.
func Mul(a, b int) (int, error) {
	if !within(a, limit) || !within(b, limit) {
		return 0, api.ErrRange
	}
	if b != 0 && size(a) > mostProduct/size(b) {
		return 0, api.ErrFull
	}
	return bounded(Whole(a * b))
}

// Div divides.
func Div(a, b int) (int, error) {
	if !within(a, limit) || !within(b, limit) || b == 0 {
		return 0, api.ErrRange
	}
	return bounded(divideDown(a<<part, b))
}

// Root of a number.
func Root(n int) (int, error) {
	if n < 0 {
		return 0, api.ErrRange
	}
	root := 0
	for bit := 1 << 31; bit > 0; bit >>= 1 {
		// Dividing asks whether the square fits; the square itself may overflow.
		if next := root + bit; next <= n/next {
			root = next
		}
	}
	return root, nil
}

// Far tells how far apart two places are.
func Far(ax, ay, bx, by int) (int, error) {
	for _, x := range [4]int{ax, ay, bx, by} {
		if !within(x, api.MaxNumber) {
			return 0, api.ErrRange
		}
	}
	dx, dy := ax-bx, ay-by
	return Root(dx*dx + dy*dy)
}

func within(x, most int) bool { return -most <= x && x <= most }

func size(x int) int {
	if x < 0 {
		return -x
	}
	return x
}

func bounded(x int) (int, error) {
	if !within(x, limit) {
		return 0, api.ErrFull
	}
	return x, nil
}

// divideDown is there because Go's own division rounds to 0.
func divideDown(a, b int) int {
	q := a / b
	if a%b != 0 && (a < 0) != (b < 0) {
		q--
	}
	return q
}
