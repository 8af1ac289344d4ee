package run_test

import (
	"math/rand"
	"strconv"
	"strings"
	"testing"

	"marchland/run"
)

// drawer draws texts.
type drawer struct{ *rand.Rand }

func (d drawer) of(l ...string) string { return l[d.Intn(len(l))] }

// number is mostly below most, and sometimes any other one.
func (d drawer) number(most int) string {
	switch d.Intn(25) {
	case 0:
		return d.of(goodNumbers()...)
	case 1:
		return d.of(wrongNumbers()...)
	}
	return strconv.Itoa(d.Intn(most))
}

func (d drawer) rows() string {
	wide, high := 1+d.Intn(6), 1+d.Intn(4)
	var rows []string
	for range high {
		row := ""
		for range wide {
			row += d.of(".", ".", ".", ".", ".", "#", "~", "^", "1", "9")
		}
		rows = append(rows, row)
	}
	if d.Intn(10) == 0 {
		rows[d.Intn(high)] += d.of(".", "+", "/", "x", "............")
	}
	return strings.Join(rows, "/")
}

// line of any row, of which the most are right.
func (d drawer) line() string {
	switch d.Intn(16) {
	case 0:
		if d.Intn(4) > 0 {
			return "step"
		}
		return "field " + d.number(5) + " " + d.of("0", "10", "100", "1000000", "-1", d.number(1000)) + " " + d.rows()
	case 1, 2, 3:
		return "place " + d.number(3) + " " + d.number(4) + " " + d.number(20)
	case 4:
		return "stop " + d.number(3) + " " + d.number(8)
	case 5:
		return "march " + d.number(3) + " " + d.number(8) + " " + d.number(20)
	case 6:
		return "gather " + d.number(3) + " " + d.number(8) + " " + d.number(20)
	case 7:
		return "train " + d.number(3) + " " + d.number(4) + " " + d.number(4)
	case 8:
		return "seen " + d.number(4)
	case 9:
		return "far " + d.number(20) + " " + d.number(20) + " " + d.number(20) + " " + d.number(20)
	case 10:
		return "dice " + d.number(100) + " " + d.number(100)
	}
	return d.of("step", "step", "step", "units", "gold", "sum")
}

// text of lines, mostly behind a field, of which some are spoilt.
func (d drawer) text() string {
	var lines []string
	if d.Intn(10) > 0 {
		lines = append(lines, "field 3 "+d.of("0", "100", "1000")+" "+d.rows())
	}
	for range d.Intn(60) {
		line := d.line()
		if d.Intn(30) == 0 {
			line = d.spoil(line)
		}
		lines = append(lines, line)
	}
	return strings.Join(lines, "\n") + d.of("", "\n")
}

// spoil a text in one place.
func (d drawer) spoil(text string) string {
	at := d.Intn(len(text) + 1)
	sign := d.of(" ", "\n", "0", "-", "/", "x", "S", "\x00", "\xff", string([]byte{byte(d.Intn(256))}))
	rest := text[at:]
	if d.Intn(2) == 0 && rest != "" {
		rest = rest[1:]
	}
	return text[:at] + d.of(sign, "") + rest
}

// TestDrawn: drawn texts are answered as a model answers them, which reads lines as forms.
func TestDrawn(t *testing.T) {
	d := drawer{rand.New(rand.NewSource(20))}
	seen := map[string]int{}
	for range 3000 {
		text := d.text()
		want := answersOf(text)
		answers(t, text, want)
		for _, line := range strings.Split(want, "\n") {
			seen[line]++
		}
	}
	for _, told := range []string{"ok", "bad", "ErrState", "ErrRange", "ErrNone", "ErrSyntax", "ErrFull", "0", "1", "2", "-"} {
		if seen[told] == 0 {
			t.Errorf("%s is never told", told)
		}
	}
}

// TestDrawnBeginnings: Z2, of drawn texts.
func TestDrawnBeginnings(t *testing.T) {
	d := drawer{rand.New(rand.NewSource(21))}
	for range 60 {
		begins(t, d.text())
	}
}

// TestSpoilt: whole games with bytes put in, changed or left out.
func TestSpoilt(t *testing.T) {
	d := drawer{rand.New(rand.NewSource(22))}
	for _, pairs := range games() {
		for range 300 {
			text := textOf(pairs)
			for range 1 + d.Intn(4) {
				text = d.spoil(text)
			}
			answers(t, text, answersOf(text))
		}
	}
}

// TestAnyBytes: texts of no form at all: a line is answered for each, and nothing panics (P1).
func TestAnyBytes(t *testing.T) {
	d := drawer{rand.New(rand.NewSource(23))}
	for range 2000 {
		b := make([]byte, d.Intn(200))
		for i := range b {
			b[i] = byte(d.Intn(256))
			if d.Intn(8) == 0 {
				b[i] = "\n -/0"[d.Intn(5)]
			}
		}
		answers(t, string(b), answersOf(string(b)))
	}
}

// TestTextStays: P2: what is answered does not hang on bytes that are changed later, nor on those behind the text.
func TestTextStays(t *testing.T) {
	b := []byte("field 1 0 ..\nplace 0 0 1\nunits\nfield 9 9 9\n")
	got := run.Run(string(b[:31]))
	for i := range b {
		b[i] = '#'
	}
	if want := "ok\nok\n1,0,0,1,50,0\n"; got != want {
		t.Errorf("got %q, want %q", got, want)
	}
}
