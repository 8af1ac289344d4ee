package tape_test

import (
	"math"
	"testing"

	"marchland/api"
	"marchland/tape"
)

// stuck holds it that nothing can be done on a tape, and that trying changes nothing.
func stuck(t *testing.T, p *tape.Tape) {
	t.Helper()
	text, safe, steps := string(p.Bytes()), p.Safe(), p.Steps()
	for range 2 {
		for _, more := range []string{"", "x", "many more"} {
			putsNot(t, p, more, api.ErrState)
			stands(t, p, text, safe, steps)
		}
		tells(t, p.Sync(), api.ErrState)
		stands(t, p, text, safe, steps)
		for n := -1; n <= len(text)+1; n++ {
			tells(t, p.Cut(n), api.ErrState)
			stands(t, p, text, safe, steps)
		}
	}
}

// goesOn holds it that each of the three can be done.
func goesOn(t *testing.T, p *tape.Tape) {
	t.Helper()
	text, steps := string(p.Bytes()), p.Steps()
	puts(t, p, "z", len(text)+1)
	does(t, p.Sync())
	does(t, p.Cut(len(text)))
	stands(t, p, text, len(text), steps+3)
}

// TestFail: I2, of a tape that has done three steps: at as many, at fewer and at 0 it fails at once; at more when those are done; below 0 never.
func TestFail(t *testing.T) {
	for _, at := range []int{3, 2, 1, 0} {
		p := written(t, "abc", "def")
		p.Fail(at)
		stands(t, p, "abcdef", 3, 3)
		stuck(t, p)
	}
	for at := 4; at < 12; at++ {
		p := written(t, "abc", "def")
		p.Fail(at)
		for i := 3; i < at; i++ {
			puts(t, p, "x", 6+i-2)
		}
		stuck(t, p)
	}
	for _, at := range []int{-1, -2, -3, math.MinInt, 1000, math.MaxInt} {
		p := written(t, "abc", "def")
		p.Fail(at)
		for range 20 {
			goesOn(t, p)
		}
	}
}

// TestFailOfNew: I2, at 0 nothing is done at all, and a Crash lets it be done.
func TestFailOfNew(t *testing.T) {
	p := tape.New()
	p.Fail(0)
	stuck(t, p)
	p.Crash(0)
	stands(t, p, "", 0, 0)
	goesOn(t, p)
}

// TestFailAtEach: I2, a Sync and a Cut bring a tape to where it fails as an Append does; what says an error does not.
func TestFailAtEach(t *testing.T) {
	p := tape.New()
	p.Fail(4)
	tells(t, p.Cut(1), api.ErrRange)
	puts(t, p, "abc", 3)
	putsNot(t, p, string(make([]byte, api.MaxBytes)), api.ErrFull)
	does(t, p.Sync())
	tells(t, p.Cut(-1), api.ErrRange)
	does(t, p.Cut(2))
	tells(t, p.Cut(3), api.ErrRange)
	puts(t, p, "", 2)
	stands(t, p, "ab", 2, 4)
	stuck(t, p)
}

// TestFailEnds: I2, a Crash ends it, whether it fails already or not yet, and counts steps anew.
func TestFailEnds(t *testing.T) {
	for _, at := range []int{0, 2, 3, 4, 5, 100} {
		p := written(t, "abc", "def")
		p.Fail(at)
		p.Crash(1)
		stands(t, p, "abcd", 4, 0)
		for range 40 {
			goesOn(t, p)
		}
	}
}

// TestFailThenCrash: I1, I2, what was loose when the tape began to fail is lost by the Crash as ever.
func TestFailThenCrash(t *testing.T) {
	p := tape.New()
	p.Fail(3)
	puts(t, p, "ab", 2)
	does(t, p.Sync())
	puts(t, p, "cd", 4)
	stuck(t, p)
	p.Crash(1)
	stands(t, p, "abc", 3, 0)
	goesOn(t, p)
}

// TestFailAgain: I2, the last Fail holds, from fewer to more and from more to fewer.
func TestFailAgain(t *testing.T) {
	p := tape.New()
	p.Fail(0)
	stuck(t, p)
	p.Fail(1)
	puts(t, p, "a", 1)
	stuck(t, p)
	p.Fail(9)
	puts(t, p, "b", 2)
	p.Fail(2)
	stuck(t, p)
	p.Fail(-1)
	goesOn(t, p)
	p.Fail(1)
	stuck(t, p)
	p.Crash(0)
	p.Fail(1)
	puts(t, p, "c", 3)
	stuck(t, p)
}
