package tape_test

import (
	"math"
	"strings"
	"testing"

	"marchland/api"
	"marchland/tape"
)

// TestSync: I1, all is safe behind it, and what is appended later is not.
func TestSync(t *testing.T) {
	p := tape.New()
	does(t, p.Sync())
	stands(t, p, "", 0, 1)
	puts(t, p, "ab", 2)
	stands(t, p, "ab", 0, 2)
	does(t, p.Sync())
	stands(t, p, "ab", 2, 3)
	does(t, p.Sync())
	stands(t, p, "ab", 2, 4)
	puts(t, p, "c", 3)
	puts(t, p, "d", 4)
	stands(t, p, "abcd", 2, 6)
	does(t, p.Sync())
	stands(t, p, "abcd", 4, 7)
}

// TestSyncFull: I1, a full tape too is made safe.
func TestSyncFull(t *testing.T) {
	full := strings.Repeat("f", api.MaxBytes)
	p := written(t, full[:1], full[1:])
	does(t, p.Sync())
	stands(t, p, full, api.MaxBytes, 4)
	p.Crash(-1)
	stands(t, p, full, api.MaxBytes, 0)
}

// TestCut: I1, at every place of a tape of which a part is safe: what stands behind it is gone, and of what is left no more is safe than was.
func TestCut(t *testing.T) {
	for _, c := range []struct {
		n    int
		text string
		safe int
	}{
		{0, "", 0}, {1, "a", 1}, {2, "ab", 2}, {3, "abc", 3}, {4, "abcd", 3}, {5, "abcde", 3}, {6, "abcdef", 3},
	} {
		p := written(t, "abc", "def")
		does(t, p.Cut(c.n))
		stands(t, p, c.text, c.safe, 4)
		does(t, p.Cut(c.n))
		stands(t, p, c.text, c.safe, 5)
		puts(t, p, "xyz", c.n+3)
		stands(t, p, c.text+"xyz", c.safe, 6)
	}
}

// TestCutIsGone: I1, no Crash brings back what was cut, were it safe or not, however much is kept.
func TestCutIsGone(t *testing.T) {
	for n := range 7 {
		for _, keep := range []int{-1, 0, 1, 3, 6, 9, math.MaxInt} {
			p := written(t, "abc", "def")
			does(t, p.Cut(n))
			p.Crash(keep)
			left := n
			if n > 3 {
				left = 3 + min(max(keep, 0), n-3)
			}
			stands(t, p, "abcdef"[:left], left, 0)
		}
	}
}

// TestCutOfSafe: I1, what is appended behind a Cut of safe bytes is not safe, though so many once were.
func TestCutOfSafe(t *testing.T) {
	p := written(t, "abcdef", "")
	does(t, p.Cut(2))
	stands(t, p, "ab", 2, 4)
	puts(t, p, "wxyz", 6)
	stands(t, p, "abwxyz", 2, 5)
	p.Crash(1)
	stands(t, p, "abw", 3, 0)
}

// TestCutMakesNothingSafe: I1, a Cut alone makes no byte safe.
func TestCutMakesNothingSafe(t *testing.T) {
	p := written(t, "", "abcdef")
	does(t, p.Cut(6))
	does(t, p.Cut(4))
	stands(t, p, "abcd", 0, 5)
	p.Crash(0)
	stands(t, p, "", 0, 0)
}

// TestCutOutOfRange: I1, a place that is none changes nothing and is no step.
func TestCutOutOfRange(t *testing.T) {
	for _, loose := range []string{"", "def"} {
		p := written(t, "abc", loose)
		many := 3 + len(loose)
		for _, n := range []int{-1, -2, -many, many + 1, many + 2, api.MaxBytes, math.MinInt, math.MaxInt} {
			tells(t, p.Cut(n), api.ErrRange)
			stands(t, p, "abc"+loose, 3, 3)
		}
		// What once was there is no place any more.
		does(t, p.Cut(1))
		for n := 2; n <= many; n++ {
			tells(t, p.Cut(n), api.ErrRange)
			stands(t, p, "a", 1, 4)
		}
	}
}

// TestCutOfEmpty: I1, an empty tape may be cut at 0 alone.
func TestCutOfEmpty(t *testing.T) {
	p := tape.New()
	for _, n := range []int{-1, 1, 2} {
		tells(t, p.Cut(n), api.ErrRange)
		stands(t, p, "", 0, 0)
	}
	does(t, p.Cut(0))
	stands(t, p, "", 0, 1)
}

// TestCutOfTwoErrors: I1, I2, a tape that fails says ErrState, though the place is none too.
func TestCutOfTwoErrors(t *testing.T) {
	p := written(t, "abc", "def")
	p.Fail(3)
	for _, n := range []int{-1, 7, math.MinInt, math.MaxInt, 0, 2, 3, 4, 6} {
		tells(t, p.Cut(n), api.ErrState)
		stands(t, p, "abcdef", 3, 3)
	}
	p.Fail(4)
	tells(t, p.Cut(7), api.ErrRange)
	tells(t, p.Cut(-1), api.ErrRange)
	does(t, p.Cut(6))
	tells(t, p.Cut(7), api.ErrState)
}
