package tape_test

import (
	"bytes"
	"strings"
	"testing"

	"marchland/api"
	"marchland/plain"
	"marchland/tape"
)

// stands holds a tape against the bytes, the safe ones and the steps that it must have.
func stands(t *testing.T, p *tape.Tape, text string, safe, steps int) {
	t.Helper()
	if got := p.Bytes(); string(got) != text || p.Safe() != safe || p.Steps() != steps {
		t.Fatalf("got %q, %d safe, %d steps; want %q, %d, %d", got, p.Safe(), p.Steps(), text, safe, steps)
	}
}

// written makes a tape whose first bytes are safe, and the others not; it has done three steps.
func written(t *testing.T, safe, loose string) *tape.Tape {
	t.Helper()
	p := tape.New()
	puts(t, p, safe, len(safe))
	does(t, p.Sync())
	puts(t, p, loose, len(safe)+len(loose))
	stands(t, p, safe+loose, len(safe), 3)
	return p
}

func puts(t *testing.T, p *tape.Tape, text string, want int) {
	t.Helper()
	if got, err := p.Append([]byte(text)); got != want || err != nil {
		t.Fatalf("Append of %d bytes: got %d, %v; want %d", len(text), got, err, want)
	}
}

func putsNot(t *testing.T, p *tape.Tape, text string, want api.Errno) {
	t.Helper()
	if got, err := p.Append([]byte(text)); got != 0 || plain.Told(err) != want {
		t.Fatalf("Append of %d bytes: got %d, %v; want %v", len(text), got, err, want)
	}
}

func does(t *testing.T, err error) {
	t.Helper()
	if err != nil {
		t.Fatalf("got %v, want no error", err)
	}
}

func tells(t *testing.T, err error, want api.Errno) {
	t.Helper()
	if plain.Told(err) != want {
		t.Fatalf("got %v, want %v", err, want)
	}
}

// TestNew: I1, I2, a new tape is empty, has done nothing, and does not fail.
func TestNew(t *testing.T) {
	p := tape.New()
	stands(t, p, "", 0, 0)
	puts(t, p, "a", 1)
	does(t, p.Sync())
	does(t, p.Cut(0))
	stands(t, p, "", 0, 3)
}

// TestAppend: I1, bytes stand behind all that are there, and it tells how many there are then; none of them is safe.
func TestAppend(t *testing.T) {
	p := tape.New()
	all := ""
	for i, text := range []string{"", "a", "", "bc", "\x00", "\xff\x00\n", strings.Repeat("long", 500), "", "z"} {
		all += text
		puts(t, p, text, len(all))
		stands(t, p, all, 0, i+1)
	}
	does(t, p.Sync())
	puts(t, p, "more", len(all)+4)
	stands(t, p, all+"more", len(all), 11)
}

// TestAppendNil: I1, P4, nil is a list of no bytes.
func TestAppendNil(t *testing.T) {
	p := tape.New()
	for i, want := range []string{"", "ab"} {
		if n, err := p.Append(nil); n != len(want) || err != nil {
			t.Fatalf("got %d, %v", n, err)
		}
		stands(t, p, want, 0, 2*i+1)
		puts(t, p, "ab", len(want)+2)
	}
}

// TestAppendEveryByte: I1, every byte is kept as it is.
func TestAppendEveryByte(t *testing.T) {
	p := tape.New()
	var all []byte
	for x := range 256 {
		all = append(all, byte(x))
		if n, err := p.Append(all[x:]); n != x+1 || err != nil {
			t.Fatalf("byte %d: got %d, %v", x, n, err)
		}
	}
	stands(t, p, string(all), 0, 256)
}

// TestAppendFull: I1, MaxBytes stand on a tape, and not one more, in whatever pieces they come.
func TestAppendFull(t *testing.T) {
	for _, begin := range []int{0, 1, 2999, 3000, 5999, 6000} {
		p := tape.New()
		old := strings.Repeat("o", begin)
		puts(t, p, old, begin)
		for _, more := range []int{1, 2, 100, 6000, 100000} {
			putsNot(t, p, strings.Repeat("x", api.MaxBytes-begin+more), api.ErrFull)
			stands(t, p, old, 0, 1)
		}
		rest := strings.Repeat("r", api.MaxBytes-begin)
		puts(t, p, rest, api.MaxBytes)
		stands(t, p, old+rest, 0, 2)
		putsNot(t, p, "x", api.ErrFull)
		puts(t, p, "", api.MaxBytes)
		stands(t, p, old+rest, 0, 3)
	}
}

// TestAppendBehindFull: I1, what a Cut or a Crash takes away leaves room for as many bytes.
func TestAppendBehindFull(t *testing.T) {
	full := strings.Repeat("f", api.MaxBytes)
	p := written(t, full[:4000], full[4000:])
	does(t, p.Cut(5990))
	putsNot(t, p, strings.Repeat("x", 11), api.ErrFull)
	puts(t, p, "0123456789", api.MaxBytes)
	p.Crash(5)
	stands(t, p, full[:4005], 4005, 0)
	putsNot(t, p, strings.Repeat("x", 1996), api.ErrFull)
	puts(t, p, full[:1995], api.MaxBytes)
	stands(t, p, full, 4005, 1)
}

// TestAppendOfTwoErrors: I1, I2, a tape that fails says ErrState, though it would be full too.
func TestAppendOfTwoErrors(t *testing.T) {
	p := tape.New()
	putsNot(t, p, strings.Repeat("x", api.MaxBytes+1), api.ErrFull)
	p.Fail(0)
	for _, many := range []int{0, 1, api.MaxBytes, api.MaxBytes + 1} {
		putsNot(t, p, strings.Repeat("x", many), api.ErrState)
		stands(t, p, "", 0, 0)
	}
	p.Fail(-1)
	puts(t, p, strings.Repeat("f", api.MaxBytes), api.MaxBytes)
	p.Fail(1)
	putsNot(t, p, "x", api.ErrState)
	p.Fail(2)
	putsNot(t, p, "x", api.ErrFull)
}

// TestBytesOnce: I1, asking a tape changes nothing, and is no step.
func TestBytesOnce(t *testing.T) {
	p := written(t, "safe", "loose")
	for range 3 {
		if !bytes.Equal(p.Bytes(), []byte("safeloose")) || p.Safe() != 4 || p.Steps() != 3 {
			t.Fatalf("got %q, %d, %d", p.Bytes(), p.Safe(), p.Steps())
		}
	}
}
