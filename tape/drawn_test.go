package tape_test

import (
	"bytes"
	"math"
	"math/rand"
	"slices"
	"testing"

	"marchland/api"
	"marchland/plain"
	"marchland/tape"
)

// spot is a byte of a tape, which tells for itself whether it is safe.
type spot struct {
	b    byte
	safe bool
}

// model is a tape of spots, with the names of the steps that were done.
type model struct {
	spots []spot
	done  []string
	bound bool
	limit int
}

// act does a step unless the tape fails or something is wrong.
func (m *model) act(name string, wrong api.Errno, step func()) api.Errno {
	if m.bound && len(m.done) >= m.limit {
		return api.ErrState
	}
	if wrong == api.OK {
		step()
		m.done = append(m.done, name)
	}
	return wrong
}

func (m *model) put(b []byte) (n int, e api.Errno) {
	wrong := api.OK
	if len(m.spots)+len(b) > 6000 {
		wrong = api.ErrFull
	}
	e = m.act("put", wrong, func() {
		for _, x := range b {
			m.spots = append(m.spots, spot{b: x})
		}
		n = len(m.spots)
	})
	return n, e
}

func (m *model) sync() api.Errno {
	return m.act("sync", api.OK, func() {
		for i := range m.spots {
			m.spots[i].safe = true
		}
	})
}

func (m *model) cut(n int) api.Errno {
	wrong := api.OK
	if n < 0 || n > len(m.spots) {
		wrong = api.ErrRange
	}
	return m.act("cut", wrong, func() {
		for len(m.spots) > n {
			m.spots = m.spots[:len(m.spots)-1]
		}
	})
}

func (m *model) crash(keep int) {
	var left []spot
	for _, s := range m.spots {
		if !s.safe {
			if keep <= 0 {
				break
			}
			keep--
		}
		left = append(left, spot{s.b, true})
	}
	*m = model{spots: left}
}

func (m *model) bytes() (b []byte) {
	for _, s := range m.spots {
		b = append(b, s.b)
	}
	return b
}

func (m *model) safe() (n int) {
	for _, s := range m.spots {
		if s.safe {
			n++
		}
	}
	return n
}

// number is mostly near where something happens.
func number(r *rand.Rand, near ...int) int {
	switch r.Intn(12) {
	case 0:
		return []int{math.MinInt, math.MaxInt, -1, 0}[r.Intn(4)]
	case 1:
		return r.Intn(api.MaxBytes + 2)
	}
	return near[r.Intn(len(near))] + r.Intn(7) - 3
}

func drawnBytes(r *rand.Rand, there int) []byte {
	many := r.Intn(9)
	if r.Intn(12) == 0 {
		many = max(0, api.MaxBytes-there+r.Intn(5)-2)
	}
	b := make([]byte, many)
	for i := range b {
		b[i] = byte(r.Intn(256))
	}
	return b
}

// TestDrawn: I1, I2: whatever is called, a tape answers what its model tells.
func TestDrawn(t *testing.T) {
	r := rand.New(rand.NewSource(16))
	told := map[string]map[api.Errno]int{"put": {}, "sync": {}, "cut": {}}
	for range 600 {
		p, m := tape.New(), &model{}
		for range 60 {
			name, got, want := drawnCall(t, r, p, m)
			if got != want {
				t.Fatalf("%s behind %v: got %v, want %v", name, m.done, got, want)
			}
			if told[name] != nil {
				told[name][want]++
			}
			if !bytes.Equal(p.Bytes(), m.bytes()) || p.Safe() != m.safe() || p.Steps() != len(m.done) {
				t.Fatalf("behind %v, %s: got %d bytes, %d safe, %d steps; want %d, %d, %d",
					m.done, name, len(p.Bytes()), p.Safe(), p.Steps(), len(m.spots), m.safe(), len(m.done))
			}
		}
	}
	for name, l := range map[string][]api.Errno{
		"put": {api.OK, api.ErrState, api.ErrFull}, "sync": {api.OK, api.ErrState}, "cut": {api.OK, api.ErrState, api.ErrRange},
	} {
		for _, e := range l {
			if told[name][e] < 100 {
				t.Errorf("%s told %v %d times alone", name, e, told[name][e])
			}
		}
	}
}

// drawnCall is done to both; it tells what they say of it.
func drawnCall(t *testing.T, r *rand.Rand, p *tape.Tape, m *model) (name string, got, want api.Errno) {
	switch r.Intn(14) {
	case 0, 1, 2, 3, 4:
		b := drawnBytes(r, len(m.spots))
		n, err := p.Append(b)
		wantN, want := m.put(b)
		if n != wantN {
			t.Fatalf("Append of %d behind %v: got %d, want %d", len(b), m.done, n, wantN)
		}
		return "put", plain.Told(err), want
	case 5, 6, 7:
		return "sync", plain.Told(p.Sync()), m.sync()
	case 8, 9, 10:
		n := number(r, 0, len(m.spots), m.safe(), len(m.spots)-3)
		return "cut", plain.Told(p.Cut(n)), m.cut(n)
	case 11:
		at := number(r, len(m.done)+3)
		p.Fail(at)
		m.bound, m.limit = at >= 0, at
		return "fail", api.OK, api.OK
	}
	keep := number(r, 0, len(m.spots)-m.safe())
	p.Crash(keep)
	m.crash(keep)
	return "crash", api.OK, api.OK
}

// longest finds the longest beginning by trying each: bytes are frames if they are none at all, or a frame and frames behind it.
func longest(b []byte) (l [][]byte, n int) {
	for n = len(b); n > 0; n-- {
		if l, ok := split(b[:n]); ok {
			return l, n
		}
	}
	return nil, 0
}

func split(b []byte) (l [][]byte, ok bool) {
	if len(b) == 0 {
		return nil, true
	}
	for n := 2; n <= len(b); n++ {
		if !bytes.Equal(tape.Frame(b[2:n]), b[:n]) {
			continue
		}
		if rest, ok := split(b[n:]); ok {
			return append([][]byte{b[2:n]}, rest...), true
		}
	}
	return nil, false
}

// TestDrawnFrames: I3: of bytes in which much is a frame, the longest beginning is found that is frames.
func TestDrawnFrames(t *testing.T) {
	r := rand.New(rand.NewSource(61))
	many := map[int]int{}
	for range 5000 {
		b := make([]byte, r.Intn(24))
		for i := range b {
			if r.Intn(3) == 0 {
				b[i] = byte(r.Intn(6))
			}
		}
		l, n := tape.Frames(b)
		want, wantN := longest(b)
		if n != wantN || !slices.EqualFunc(l, want, bytes.Equal) {
			t.Fatalf("of %v: got %v, %d; want %v, %d", b, l, n, want, wantN)
		}
		many[min(len(l), 6)]++
	}
	for i := range 7 {
		if many[i] < 100 {
			t.Errorf("%d frames came %d times alone", i, many[i])
		}
	}
}
