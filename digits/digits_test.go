package digits_test

import (
	"regexp"
	"strconv"
	"strings"
	"testing"

	"marchland/digits"
)

// TestReadNumbers: each number of at most four digits, as it is written.
func TestReadNumbers(t *testing.T) {
	for n := range 12000 {
		got, ok := digits.Read(strconv.Itoa(n), 4)
		if fits := n < 10000; ok != fits || fits && got != n || !fits && got != 0 {
			t.Errorf("%d: got %d, %v", n, got, ok)
		}
	}
}

// TestReadMost: as many digits as may be, and one more.
func TestReadMost(t *testing.T) {
	for most := 1; most <= 18; most++ {
		word := strings.Repeat("9", most)
		want, _ := strconv.Atoi(word)
		if got, ok := digits.Read(word, most); got != want || !ok {
			t.Errorf("%s, at most %d: got %d, %v", word, most, got, ok)
		}
		if got, ok := digits.Read(word+"0", most); got != 0 || ok {
			t.Errorf("%s0, at most %d: got %d, %v", word, most, got, ok)
		}
	}
	for _, most := range []int{0, -1} {
		if got, ok := digits.Read("1", most); got != 0 || ok {
			t.Errorf("1, at most %d: got %d, %v", most, got, ok)
		}
	}
}

// TestReadNone: words that are no number, and numbers that are not written so.
func TestReadNone(t *testing.T) {
	for _, word := range []string{"", " ", "-", "+", "00", "01", "007", "000000", "+0", "-0", "+1", "-1", "-12", " 1", "1 ", "1 2",
		"1_0", "0x1", "1e3", "1.", ".1", "1.0", "1\n", "a", "1a", "a1", "\x00", "\xff", "１", "٣", "9223372036854775808"} {
		for _, most := range []int{1, 4, 7, 9, 20, 1000} {
			if got, ok := digits.Read(word, most); got != 0 || ok {
				t.Errorf("%q, at most %d: got %d, %v", word, most, got, ok)
			}
		}
	}
}

// TestReadBytes: every word of one byte and of two, by another way than the program's.
func TestReadBytes(t *testing.T) {
	form := regexp.MustCompile(`\A(0|[1-9][0-9]?)\z`)
	for a := range 256 {
		for b := range 257 {
			word := string([]byte{byte(a), byte(b)})
			if b == 256 {
				word = word[:1]
			}
			got, ok := digits.Read(word, 7)
			if want := form.MatchString(word); ok != want || !ok && got != 0 || ok && strconv.Itoa(got) != word {
				t.Errorf("%q: got %d, %v; want %v", word, got, ok, want)
			}
		}
	}
}
