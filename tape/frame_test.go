package tape_test

import (
	"bytes"
	"slices"
	"strings"
	"testing"

	"marchland/tape"
)

// some bytes, no two neighbours the same.
func some(many int) []byte {
	b := make([]byte, many)
	for i := range b {
		b[i] = byte(i*7 + i>>8 + 1)
	}
	return b
}

// TestFrame: I3, two bytes of how many, modulo 65536, the high one first, and all the bytes.
func TestFrame(t *testing.T) {
	for _, c := range []struct{ many, high, low int }{
		{0, 0, 0}, {1, 0, 1}, {2, 0, 2}, {127, 0, 127}, {128, 0, 128}, {255, 0, 255}, {256, 1, 0}, {257, 1, 1},
		{511, 1, 255}, {512, 2, 0}, {6000, 23, 112}, {32767, 127, 255}, {32768, 128, 0}, {65280, 255, 0},
		{65535, 255, 255}, {65536, 0, 0}, {65537, 0, 1}, {65792, 1, 0}, {131071, 255, 255}, {131072, 0, 0}, {200000, 13, 64},
	} {
		b := some(c.many)
		got := tape.Frame(b)
		want := append([]byte{byte(c.high), byte(c.low)}, b...)
		if !bytes.Equal(got, want) {
			t.Errorf("of %d: got %d bytes that begin with %v, want %d that begin with %v",
				c.many, len(got), got[:min(len(got), 4)], len(want), want[:min(len(want), 4)])
		}
	}
	if got := tape.Frame(nil); !bytes.Equal(got, []byte{0, 0}) {
		t.Errorf("of nil: got %v", got)
	}
	if got := tape.Frame([]byte("ab")); string(got) != "\x00\x02ab" {
		t.Errorf("of ab: got %q", got)
	}
}

// TestFrames: I3, the whole frames that bytes begin with, and how many bytes these are.
func TestFrames(t *testing.T) {
	for _, c := range []struct {
		text string
		want []string
		n    int
	}{
		{"", nil, 0},
		{"\x00", nil, 0}, {"\x01", nil, 0}, {"\xff", nil, 0}, {"\x00\x01", nil, 0}, {"\x01\x00", nil, 0}, {"\xff\xff", nil, 0},
		{"\x00\x00", []string{""}, 2}, {"\x00\x00\x00\x00", []string{"", ""}, 4}, {"\x00\x00\x00\x00\x00", []string{"", ""}, 4},
		{"\x00\x00\x00\x00\x00\x00", []string{"", "", ""}, 6},
		{"\x00\x01a", []string{"a"}, 3}, {"\x00\x02a", nil, 0}, {"\x00\x02ab", []string{"ab"}, 4},
		{"\x00\x01ab", []string{"a"}, 3}, {"\x00\x01a\x00", []string{"a"}, 3}, {"\x00\x01a\x00\x00", []string{"a", ""}, 5},
		{"\x00\x01a\x00\x01", []string{"a"}, 3}, {"\x00\x01a\x00\x01b", []string{"a", "b"}, 6},
		{"\x00\x00\x00\x01a\x00\x00", []string{"", "a", ""}, 7},
		{"\x00\x02a\x00\x00\x00", []string{"a\x00", ""}, 6},
		{"\x00\x03abc\x00\x02de\x00\x01f", []string{"abc", "de", "f"}, 12},
		{"\x00\x03abc\x00\x02de\x00\x02f", []string{"abc", "de"}, 9},
		{"\x00\x03abc\x00\x03de\x00\x01f", []string{"abc", "de\x00"}, 10},
		{"\x00\x04abc", nil, 0}, {"xyz", nil, 0},
		// Behind one that is torn nothing is whole, whatever stands there.
		{"\x00\x09a\x00\x01b", nil, 0}, {"\x00\x01a\x01\x00\x00\x01b", []string{"a"}, 3},
	} {
		framesAre(t, []byte(c.text), c.want, c.n)
	}
}

func framesAre(t *testing.T, b []byte, want []string, n int) {
	t.Helper()
	l, got := tape.Frames(b)
	if got != n || !slices.EqualFunc(l, want, func(x []byte, y string) bool { return string(x) == y }) {
		t.Fatalf("of %d bytes, %q: got %d frames of %d bytes; want %d of %d", len(b), b[:min(len(b), 30)], len(l), got, len(want), n)
	}
}

// TestFramesOfLong: I3, frames of as many bytes as two bytes can tell, alone, behind another one, torn and with bytes behind them.
func TestFramesOfLong(t *testing.T) {
	for _, many := range []int{0, 1, 2, 254, 255, 256, 257, 511, 512, 5998, 32768, 65279, 65280, 65534, 65535} {
		b := some(many)
		one := tape.Frame(b)
		framesAre(t, one, []string{string(b)}, many+2)
		ahead := tape.Frame([]byte("ahead"))
		both := slices.Concat(ahead, one)
		framesAre(t, both, []string{"ahead", string(b)}, many+9)
		framesAre(t, both[:len(both)-1], []string{"ahead"}, 7)
		framesAre(t, append(slices.Clone(both), 0), []string{"ahead", string(b)}, many+9)
		framesAre(t, slices.Concat(both, ahead), []string{"ahead", string(b), "ahead"}, many+16)
	}
}

// TestFramesBeyond: I3, two bytes tell no more than 65535, so that of what a longer one has the first bytes alone are found, as many as they tell.
func TestFramesBeyond(t *testing.T) {
	long := bytes.Repeat([]byte{255}, 65536)
	framesAre(t, tape.Frame(long), []string{""}, 2)
	framesAre(t, tape.Frame(append(long, 255, 255)), []string{"\xff\xff"}, 4)
}

// TestTornAnywhere: I3, of frames one behind the other, cut at each place, those are found that are whole.
func TestTornAnywhere(t *testing.T) {
	texts := []string{"a", "", "bcd", strings.Repeat("\x00\x01", 150), "", "", "\x00", "end"}
	var all []byte
	var ends []int
	for _, text := range texts {
		all = append(all, tape.Frame([]byte(text))...)
		ends = append(ends, len(all))
	}
	for n := range len(all) + 1 {
		whole, end := 0, 0
		for whole < len(ends) && ends[whole] <= n {
			end = ends[whole]
			whole++
		}
		framesAre(t, all[:n], texts[:whole], end)
	}
}

// TestFramesOfFrames: I3, a frame may have frames, and what Frames found, framed again, is where the bytes begin.
func TestFramesOfFrames(t *testing.T) {
	inner := slices.Concat(tape.Frame([]byte("a")), tape.Frame(nil), tape.Frame([]byte("bc")))
	outer := slices.Concat(tape.Frame(inner), tape.Frame(inner), []byte{0})
	l, n := tape.Frames(outer)
	if n != len(outer)-1 || len(l) != 2 {
		t.Fatalf("got %d of %d bytes", len(l), n)
	}
	for _, b := range l {
		framesAre(t, b, []string{"a", "", "bc"}, len(inner))
	}
	if again := slices.Concat(tape.Frame(l[0]), tape.Frame(l[1])); !bytes.Equal(again, outer[:n]) {
		t.Errorf("framed again: %q", again)
	}
}

// TestFramesOfTape: I1, I3, frames on a tape that crashes in one of them: those ahead of it are found, and a Cut makes room for more.
func TestFramesOfTape(t *testing.T) {
	p := tape.New()
	for _, text := range []string{"one", "two", "three"} {
		if _, err := p.Append(tape.Frame([]byte(text))); err != nil {
			t.Fatal(err)
		}
		if text == "one" {
			does(t, p.Sync())
		}
	}
	p.Crash(9)
	framesAre(t, p.Bytes(), []string{"one", "two"}, 10)
	does(t, p.Cut(10))
	if n, err := p.Append(tape.Frame([]byte("more"))); n != 16 || err != nil {
		t.Fatalf("got %d, %v", n, err)
	}
	framesAre(t, p.Bytes(), []string{"one", "two", "more"}, 16)
}
