package tape_test

import (
	"math"
	"strings"
	"testing"

	"marchland/api"
	"marchland/tape"
)

// TestCrash: I1, what is safe stays, and of the rest its first keep bytes: none below 0, all if there are fewer; what is there then is safe.
func TestCrash(t *testing.T) {
	for _, c := range []struct {
		safe, loose string
		keep        int
		text        string
	}{
		{"abc", "def", math.MinInt, "abc"}, {"abc", "def", -3, "abc"}, {"abc", "def", -1, "abc"}, {"abc", "def", 0, "abc"},
		{"abc", "def", 1, "abcd"}, {"abc", "def", 2, "abcde"}, {"abc", "def", 3, "abcdef"}, {"abc", "def", 4, "abcdef"},
		{"abc", "def", 6, "abcdef"}, {"abc", "def", api.MaxBytes + 1, "abcdef"}, {"abc", "def", math.MaxInt, "abcdef"},
		{"", "def", -1, ""}, {"", "def", 0, ""}, {"", "def", 2, "de"}, {"", "def", 3, "def"}, {"", "def", math.MaxInt, "def"},
		{"abc", "", -1, "abc"}, {"abc", "", 0, "abc"}, {"abc", "", 1, "abc"}, {"abc", "", math.MaxInt, "abc"},
		{"", "", -1, ""}, {"", "", 0, ""}, {"", "", 1, ""}, {"", "", math.MaxInt, ""},
	} {
		p := written(t, c.safe, c.loose)
		p.Crash(c.keep)
		stands(t, p, c.text, len(c.text), 0)
		// All is safe, so that one more loses nothing.
		p.Crash(-1)
		stands(t, p, c.text, len(c.text), 0)
		puts(t, p, "xyz", len(c.text)+3)
		stands(t, p, c.text+"xyz", len(c.text), 1)
		p.Crash(2)
		stands(t, p, c.text+"xy", len(c.text)+2, 0)
	}
}

// TestCrashOfNew: I1, I2, a new tape that crashes is as it was.
func TestCrashOfNew(t *testing.T) {
	for _, keep := range []int{math.MinInt, -1, 0, 1, math.MaxInt} {
		p := tape.New()
		p.Crash(keep)
		stands(t, p, "", 0, 0)
		puts(t, p, "a", 1)
	}
}

// TestCrashOfFull: I1, of a full tape nothing is safe, but for what is kept.
func TestCrashOfFull(t *testing.T) {
	full := strings.Repeat("f", api.MaxBytes)
	for _, keep := range []int{0, 1, api.MaxBytes - 1, api.MaxBytes, api.MaxBytes + 1} {
		p := written(t, "", full)
		p.Crash(keep)
		left := min(keep, api.MaxBytes)
		stands(t, p, full[:left], left, 0)
	}
}

// TestLostIsGone: I1, what a Crash loses does not come back behind what is appended then.
func TestLostIsGone(t *testing.T) {
	p := written(t, "abc", "defgh")
	p.Crash(1)
	puts(t, p, "x", 5)
	p.Crash(9)
	stands(t, p, "abcdx", 5, 0)
	tells(t, p.Cut(6), api.ErrRange)
	does(t, p.Cut(5))
	stands(t, p, "abcdx", 5, 1)
}

// TestSteps: I2, each Append, Sync and Cut without an error is a step, and nothing else is; a Crash begins anew.
func TestSteps(t *testing.T) {
	p := tape.New()
	for range 2 {
		puts(t, p, "ab", 2)
		stands(t, p, "ab", 0, 1)
		puts(t, p, "", 2)
		stands(t, p, "ab", 0, 2)
		putsNot(t, p, strings.Repeat("x", api.MaxBytes), api.ErrFull)
		stands(t, p, "ab", 0, 2)
		does(t, p.Sync())
		stands(t, p, "ab", 2, 3)
		tells(t, p.Cut(3), api.ErrRange)
		stands(t, p, "ab", 2, 3)
		does(t, p.Cut(2))
		does(t, p.Cut(0))
		stands(t, p, "", 0, 5)
		p.Fail(9)
		p.Fail(-1)
		stands(t, p, "", 0, 5)
		p.Fail(5)
		putsNot(t, p, "a", api.ErrState)
		tells(t, p.Sync(), api.ErrState)
		tells(t, p.Cut(0), api.ErrState)
		stands(t, p, "", 0, 5)
		p.Crash(0)
		stands(t, p, "", 0, 0)
	}
}

// TestManySteps: I2, steps are counted however many they are.
func TestManySteps(t *testing.T) {
	p := tape.New()
	for range 70000 {
		does(t, p.Sync())
	}
	stands(t, p, "", 0, 70000)
	p.Fail(70001)
	does(t, p.Sync())
	tells(t, p.Sync(), api.ErrState)
	stands(t, p, "", 0, 70001)
}
