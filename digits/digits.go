// Package digits has how a number stands in a text.
package digits

import "strconv"

// Read gives the number that a word is, if it is one of at most so many digits, without a needless 0.
func Read(word string, most int) (int, bool) {
	if len(word) > most {
		return 0, false
	}
	n, err := strconv.Atoi(word)
	// Atoi takes more than may be written: what has a needless 0 or a + ahead comes out otherwise than it stood.
	if err != nil || n < 0 || strconv.Itoa(n) != word {
		return 0, false
	}
	return n, true
}
