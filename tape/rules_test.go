package tape_test

import (
	"bytes"
	"slices"
	"testing"

	"marchland/api"
	"marchland/tape"
)

// behind lies where no list has a byte; as a frame's first bytes it would be one more.
const behind = "\x00\x00\x00\x01z"

// roomy is a list with something behind its length.
func roomy(text string) []byte { return []byte(text + behind)[:len(text)] }

func isRoomy(b []byte, text string) bool { return string(b[:len(text)+len(behind)]) == text+behind }

func fill(b []byte) {
	b = b[:cap(b)]
	for i := range b {
		b[i] = 'F'
	}
}

// TestBytesStay: P2, P4: what is handed in stays as it was, and what lies behind it is neither read nor written, whether it is taken or refused.
func TestBytesStay(t *testing.T) {
	for _, text := range []string{
		"", "a", "\x00", "\x00\x01", "\x00\x01a", "\x00\x00", "\x00\x03ab", "abc\x00", string(make([]byte, api.MaxBytes)), string(make([]byte, api.MaxBytes+1)),
	} {
		b := roomy(text)
		p := tape.New()
		for range 2 {
			p.Append(b)
			tape.Frame(b)
			tape.Frames(b)
		}
		p.Fail(0)
		p.Append(b)
		p.Crash(1)
		p.Append(b)
		if !isRoomy(b, text) {
			t.Errorf("%q: it became %q", text[:min(len(text), 9)], b[:min(len(b), 9)])
		}
		want, wantN := tape.Frames([]byte(text))
		if l, n := tape.Frames(b); n != wantN || !slices.EqualFunc(l, want, bytes.Equal) {
			t.Errorf("%q with bytes behind it: got %d frames of %d bytes, want %d of %d", text[:min(len(text), 9)], len(l), n, len(want), wantN)
		}
		if got := tape.Frame(b); !bytes.Equal(got, tape.Frame([]byte(text))) {
			t.Errorf("%q with bytes behind it: the frame has %d bytes", text[:min(len(text), 9)], len(got))
		}
	}
}

// TestWrittenIsKept: P2, what is handed in and changed afterwards does not change the tape, be it the first bytes of it or later ones.
func TestWrittenIsKept(t *testing.T) {
	p := tape.New()
	all := ""
	for i, text := range []string{"", "abc", "d", "", "efgh"} {
		b := roomy(text)
		if _, err := p.Append(b); err != nil {
			t.Fatal(err)
		}
		fill(b)
		all += text
		stands(t, p, all, 0, i+1)
	}
}

// TestOneListForMany: P2, one list that is written several times, and changed between, is each time what it was then.
func TestOneListForMany(t *testing.T) {
	p := tape.New()
	b := make([]byte, 2, 64)
	for i := range 3 {
		b[0], b[1] = byte('a'+i), byte('x'+i)
		for _, l := range [][]byte{b, b[:0]} {
			if n, err := p.Append(l); n != 2*i+2 || err != nil {
				t.Fatalf("got %d, %v", n, err)
			}
		}
	}
	stands(t, p, "axbycz", 0, 6)
}

// TestBytesAreFresh: P2, what is written into the bytes handed out, or behind them, changes neither the tape nor other bytes handed out.
func TestBytesAreFresh(t *testing.T) {
	p := written(t, "abc", "def")
	first, second := p.Bytes(), p.Bytes()
	fill(first)
	if string(second) != "abcdef" {
		t.Errorf("the other became %q", second)
	}
	stands(t, p, "abcdef", 3, 3)
	// What a Cut or a Crash leaves has room behind it, which must not be the caller's.
	does(t, p.Cut(4))
	cut := p.Bytes()
	_ = append(cut, "XYZ"...)
	fill(cut)
	puts(t, p, "ghi", 7)
	stands(t, p, "abcdghi", 3, 5)
	p.Crash(2)
	lost := p.Bytes()
	puts(t, p, "jk", 7)
	fill(lost)
	stands(t, p, "abcdgjk", 5, 1)
}

// TestBytesStayAsTheyWere: P2, bytes that were handed out are not changed by what is called later.
func TestBytesStayAsTheyWere(t *testing.T) {
	p := written(t, "abc", "def")
	before := p.Bytes()
	does(t, p.Cut(1))
	puts(t, p, "uvwxyz", 7)
	p.Crash(2)
	puts(t, p, "0123456789", 13)
	if string(before) != "abcdef" {
		t.Errorf("it became %q", before)
	}
}

// TestFramesAreFresh: P2, what Frame and Frames hand out shares no memory with what they were handed, nor one frame with another.
func TestFramesAreFresh(t *testing.T) {
	text := "\x00\x02ab\x00\x00\x00\x03cde\x00\x01f\x00"
	b := roomy(text)
	l, n := tape.Frames(b)
	again, _ := tape.Frames(b)
	want := []string{"ab", "", "cde", "f"}
	for i := range l {
		fill(l[i])
		_ = append(l[i], "LONG"...)
		if !isRoomy(b, text) {
			t.Fatalf("frame %d: the bytes became %q", i, b)
		}
		for j := i + 1; j < len(l); j++ {
			if string(l[j]) != want[j] {
				t.Fatalf("frame %d: frame %d became %q", i, j, l[j])
			}
		}
	}
	fill(b)
	if n != 14 || !slices.EqualFunc(again, want, func(x []byte, y string) bool { return string(x) == y }) {
		t.Errorf("got %q, %d", again, n)
	}

	c := roomy("abc")
	one, two := tape.Frame(c), tape.Frame(c)
	fill(one)
	if !isRoomy(c, "abc") || string(two) != "\x00\x03abc" {
		t.Errorf("the bytes became %q, the other frame %q", c, two)
	}
	fill(c)
	if string(two) != "\x00\x03abc" {
		t.Errorf("the frame became %q", two)
	}
}

// TestTapesAreApart: P2, what is done to one tape is not seen in another.
func TestTapesAreApart(t *testing.T) {
	a, b := tape.New(), tape.New()
	shared := roomy("ab")
	for _, p := range []*tape.Tape{a, b} {
		if _, err := p.Append(shared); err != nil {
			t.Fatal(err)
		}
	}
	puts(t, a, "cd", 4)
	puts(t, b, "ef", 4)
	does(t, a.Sync())
	stands(t, a, "abcd", 4, 3)
	stands(t, b, "abef", 0, 2)
	a.Fail(0)
	puts(t, b, "g", 5)
	tells(t, a.Sync(), api.ErrState)
	b.Crash(1)
	tells(t, a.Sync(), api.ErrState)
	stands(t, a, "abcd", 4, 3)
	stands(t, b, "a", 1, 0)
	stands(t, tape.New(), "", 0, 0)
}

// TestSameOnEach: P2, two tapes to which the same is done answer the same.
func TestSameOnEach(t *testing.T) {
	play := func() (n int, text string, safe, steps int) {
		p := written(t, "abc", "def")
		does(t, p.Cut(5))
		p.Crash(1)
		p.Fail(2)
		p.Append([]byte("gh"))
		n, _ = p.Append([]byte("ij"))
		p.Append([]byte("kl"))
		return n, string(p.Bytes()), p.Safe(), p.Steps()
	}
	for range 3 {
		if n, text, safe, steps := play(); n != 8 || text != "abcdghij" || safe != 4 || steps != 2 {
			t.Errorf("got %d, %q, %d, %d", n, text, safe, steps)
		}
	}
}
