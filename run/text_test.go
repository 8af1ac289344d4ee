package run_test

import (
	"strings"
	"testing"

	"marchland/run"
)

// TestLines: where a text is cut, and how many lines it has.
func TestLines(t *testing.T) {
	for _, c := range []struct{ text, want string }{
		{"", ""},
		{"\n", "bad\n"},
		{"\n\n", "bad\nbad\n"},
		{"\n\n\n\n\n", "bad\nbad\nbad\nbad\nbad\n"},
		{" ", "bad\n"},
		{" \n", "bad\n"},
		{"far 0 0 3 4", "5\n"},
		{"far 0 0 3 4\n", "5\n"},
		{"far 0 0 3 4\n\n", "5\nbad\n"},
		{"\nfar 0 0 3 4", "bad\n5\n"},
		{"far 0 0 3 4\nfar 0 0 6 8", "5\n10\n"},
		{"far 0 0 3 4\nfar 0 0 6 8\n", "5\n10\n"},
		{"far 0 0 3 4\n\nfar 0 0 6 8\n", "5\nbad\n10\n"},
		{"far 0 0 3 4\r\nfar 0 0 6 8\r\n", "bad\nbad\n"},
		{"far 0 0 3 4\rfar 0 0 6 8", "bad\n"},
		{"far 0 0 3 4\x00\n", "bad\n"},
		{"field 1 0 ..\nunits\ngold", "ok\n-\n0\n"},
		{"\xff\n\xfe", "bad\nbad\n"},
		{"\xe2\x80\xa8far 0 0 3 4\n", "bad\n"},
		{"far 0 0 3 4\xe2\x80\xa8far 0 0 3 4\x0bfar 0 0 3 4\x0cfar 0 0 3 4\xc2\x85\n", "bad\n"},
	} {
		answers(t, c.text, c.want)
	}
}

// TestMaxRun: texts as long as they may be, and longer ones; bytes are counted, not signs.
func TestMaxRun(t *testing.T) {
	full := strings.Repeat("sum\n", 750)
	told := strings.Repeat("ErrState\n", 750)
	begun := "field 4 1000000 .\n"
	played := "ok\n" + strings.Repeat("1000000 1000000 1000000 1000000\n", 596)
	for _, c := range []struct {
		name, text string
		long       int
		want       string
	}{
		{"lines, the last one without its end", full[:2999], 2999, told},
		{"lines", full, 3000, told},
		{"lines, and an end more", full + "\n", 3001, "too long\n"},
		{"lines, and a sign more", full + "s", 3001, "too long\n"},
		{"lines of a world", begun + strings.Repeat("gold\n", 596), 2998, played},
		{"lines of a world, and an end more", begun + strings.Repeat("gold\n", 596) + "\n", 2999, played + "bad\n"},
		{"lines of a world, and two ends more", begun + strings.Repeat("gold\n", 596) + "\n\n", 3000, played + "bad\nbad\n"},
		{"lines of a world, and three ends more", begun + strings.Repeat("gold\n", 596) + "\n\n\n", 3001, "too long\n"},
		{"ends 2999", strings.Repeat("\n", 2999), 2999, strings.Repeat("bad\n", 2999)},
		{"ends 3000", strings.Repeat("\n", 3000), 3000, strings.Repeat("bad\n", 3000)},
		{"ends 3001", strings.Repeat("\n", 3001), 3001, "too long\n"},
		{"one line 2999", strings.Repeat("a", 2999), 2999, "bad\n"},
		{"one line 3000", strings.Repeat("a", 3000), 3000, "bad\n"},
		{"one line 3001", strings.Repeat("a", 3001), 3001, "too long\n"},
		{"blanks 3000", strings.Repeat(" ", 3000), 3000, "bad\n"},
		{"blanks 3001", strings.Repeat(" ", 3001), 3001, "too long\n"},
		{"signs of two bytes 1500", strings.Repeat("é", 1500), 3000, "bad\n"},
		{"signs of two bytes 1501", strings.Repeat("é", 1501), 3002, "too long\n"},
		{"rows 3000", "field 1 0 " + strings.Repeat(".", 2990), 3000, "ErrFull\n"},
		{"rows 3001", "field 1 0 " + strings.Repeat(".", 2991), 3001, "too long\n"},
		{"a digit 3000", "dice 1 " + strings.Repeat("9", 2993), 3000, "bad\n"},
		{"very long", strings.Repeat(full, 1000), 3000000, "too long\n"},
	} {
		if len(c.text) != c.long {
			t.Fatalf("%s: has %d bytes", c.name, len(c.text))
		}
		if got := run.Run(c.text); got != c.want {
			t.Errorf("%s: got %d bytes, %.40q; want %d, %.40q", c.name, len(got), got, len(c.want), c.want)
		}
	}
}

// rowsOfTable has a line of each row, all its words being right, and what it is answered in scene.
func rowsOfTable() []struct{ line, want string } {
	return []struct{ line, want string }{
		{"field 2 30 .../..9", "ok"},
		{"place 1 3 6", "ok"},
		{"stop 0 1", "ok"},
		{"march 0 2 6", "ok"},
		{"gather 0 2 7", "ok"},
		{"train 0 1 1", "ok"},
		{"step", "0"},
		{"units", "1,0,0,0,50,0 2,0,1,1,10,0"},
		{"gold", "70 70"},
		{"sum", "583933217"},
		{"seen 0", "8"},
		{"far 1 2 4 6", "5"},
		{"dice 7 6", "3"},
	}
}

// scene is a world for a line of each row.
func scene() []string {
	return []string{"field 2 70 ..../...9", "place 0 0 0", "place 0 1 1"}
}

// isFree tells of a line that is answered without a world too.
func isFree(line string) bool {
	word, _, _ := strings.Cut(line, " ")
	return word == "field" || word == "far" || word == "dice"
}

// TestRowsOfTable: each row is answered, in a world and without one.
func TestRowsOfTable(t *testing.T) {
	for _, c := range rowsOfTable() {
		if got := behind(t, scene(), c.line); got != c.want {
			t.Errorf("%q: got %q, want %q", c.line, got, c.want)
		}
		want := "ErrState"
		if isFree(c.line) {
			want = c.want
		}
		plays(t, c.line, want)
	}
}

// TestStateAhead: without a world, what can be read is told as ErrState, whatever its numbers are.
func TestStateAhead(t *testing.T) {
	plays(t,
		"place 9 9 -9", "ErrState", "stop -1 0", "ErrState", "march 0 1 999999999", "ErrState", "gather 4 0 0", "ErrState",
		"train 0 -999999999 0", "ErrState", "step", "ErrState", "units", "ErrState", "gold", "ErrState", "sum", "ErrState", "seen 7", "ErrState",
		"field 0 0 .", "ErrRange", "step", "ErrState",
		"field 1 0 +", "ErrSyntax", "units", "ErrState",
		"field 1 0 .............", "ErrFull", "sum", "ErrState",
		"field 1 0 . .", "bad", "gold", "ErrState",
		"dice 1 0", "ErrRange", "far 0 0 0 1000001", "ErrRange", "seen 0", "ErrState",
		"field 1 0 .", "ok", "seen 0", "0", "step", "0")
}

// TestWords: words more and less, blanks where none belong, and words that are none, in a world and without one.
func TestWords(t *testing.T) {
	for _, c := range rowsOfTable() {
		words := strings.Split(c.line, " ")
		more := c.line + " 0"
		swapped := append([]string{words[len(words)-1]}, words[:len(words)-1]...)
		lines := []string{
			" " + c.line, c.line + " ", c.line + "  ", "  " + c.line, "\t" + c.line,
			more, c.line + " 0 0", c.line + " " + c.line, c.line + " step", c.line + " x",
			strings.ToUpper(c.line), strings.ToUpper(c.line[:1]) + c.line[1:], strings.Replace(c.line, words[0], words[0][:1]+strings.ToUpper(words[0][1:]), 1),
			words[0] + "s" + c.line[len(words[0]):], words[0][:len(words[0])-1] + c.line[len(words[0]):], "x" + c.line, c.line[1:],
		}
		if len(words) > 1 {
			lines = append(lines, strings.Join(words[:len(words)-1], " "), words[0], words[0]+" ", c.line[len(words[0]):], strings.Join(swapped, " "),
				strings.ReplaceAll(c.line, " ", ""), strings.ReplaceAll(c.line, " ", "\t"), strings.ReplaceAll(c.line, " ", "  "), strings.ReplaceAll(c.line, " ", "\u00a0"), strings.ReplaceAll(c.line, " ", ","))
		}
		if words[0] != "field" { // whose last word may be any, and is for Parse to tell of
			lines = append(lines, c.line+"\t", c.line+"\r", c.line+"\x00", c.line+"x", c.line+",", c.line+"/")
		}
		for i := range c.line {
			if c.line[i] == ' ' {
				lines = append(lines, c.line[:i]+" "+c.line[i:])
			}
		}
		for _, line := range lines {
			plays(t, line, "bad")
			if got := behind(t, scene(), line); got != "bad" {
				t.Errorf("%q, in a world: got %q", line, got)
			}
		}
	}
}

// TestUnknownWords: in a world and without one.
func TestUnknownWords(t *testing.T) {
	for _, line := range []string{
		"", " ", "  ", "x", "0", "-", "-1", "ok", "bad", "too long", "world", "new", "take", "look", "rest", "move 0 1 2", "dig 0 1 2",
		"sums", "su", "Sum", "SUM", "sum\x00", "fields 1 0 .", "field", "field ", "field 1 0", "field 1", "field .", "field 1 0 . .", "/", "......",
		"0 2 stop", "0 stop 2", "1 2 3 4", "# step", "step;", "step,", "\xff", "ſum", "ｓtep", "ErrState", "unitsgold", "units,gold",
	} {
		if line != "" {
			plays(t, line, "bad")
		}
		answers(t, line+"\n", "bad\n")
		if got := behind(t, scene(), line, "step"); got != "0" {
			t.Errorf("behind %q: step got %q", line, got)
		}
		if line != "" && behind(t, scene(), line) != "bad" {
			t.Errorf("%q, in a world: got %q", line, behind(t, scene(), line))
		}
	}
}

// goodNumbers are written as they must be; wrongNumbers are not.
func goodNumbers() []string {
	return []string{
		"0", "1", "-1", "2", "3", "4", "-4", "9", "10", "-10", "11", "99", "100", "-100", "1000000", "1000001", "-1000000", "-1000001",
		"100000000", "999999999", "-100000000", "-999999999",
	}
}

func wrongNumbers() []string {
	return []string{
		"", "00", "01", "001", "-0", "-00", "-01", "+1", "+0", "+", "+-1", "-+1", "-", "--", "--1", "---1", "1-", "1-1", "-1-",
		"1000000000", "-1000000000", "0000000001", "-0000000001", "9999999999", "-9999999999", "000000000", "099999999", "-099999999",
		"9223372036854775807", "9223372036854775808", "-9223372036854775808", "18446744073709551616", "99999999999999999999999999",
		"1a", "a1", "a", "1a1", "x", "0x1", "0b1", "0o1", "1e1", "1_0", "1_000", "1,0", "1,", ",1", "1.0", "1.", ".1", ".", "/", "1/2", "1:", "#1", "1\t", "\t1", "1\r",
		"1\x00", "\x00", "\x00\x01", "\xff", "1\xff", "１", "٣", "¹", "½", "−1", "\u00a01", "1\u2028", "inf", "NaN", "(1)", "0-", "'1'", "\"1\"",
	}
}

// linesWith are lines of each row with a word in the place of each number.
func linesWith(word string) (l []string) {
	for _, c := range rowsOfTable() {
		words := strings.Split(c.line, " ")
		for i := 1; i < len(words); i++ {
			if words[0] == "field" && i == 3 {
				continue
			}
			other := append([]string(nil), words...)
			other[i] = word
			l = append(l, strings.Join(other, " "))
		}
	}
	return l
}

// TestWrongNumbers: in each place, in a world and without one; nothing comes of the line.
func TestWrongNumbers(t *testing.T) {
	for _, word := range wrongNumbers() {
		lines := linesWith(word)
		if len(lines) != 23 {
			t.Fatalf("%d places for numbers", len(lines))
		}
		for _, line := range lines {
			plays(t, line, "bad")
			if got := behind(t, scene(), line); got != "bad" {
				t.Errorf("%q, in a world: got %q", line, got)
			}
			if got := behind(t, scene(), line, "sum"); got != "583933217" {
				t.Errorf("behind %q: sum got %q", line, got)
			}
			if got := behind(t, scene(), line, "step"); got != "0" {
				t.Errorf("behind %q: step got %q", line, got)
			}
		}
	}
}

// TestGoodNumbers: in each place, in a world and without one.
func TestGoodNumbers(t *testing.T) {
	for _, word := range goodNumbers() {
		for _, line := range linesWith(word) {
			for _, ahead := range []string{"", strings.Join(scene(), "\n") + "\n"} {
				text := ahead + line + "\nsum\nstep\nsum\n"
				want := answersOf(text)
				if strings.Contains(want, "bad") {
					t.Fatalf("%q is no number", word)
				}
				answers(t, text, want)
			}
		}
	}
}

// TestManyWrong: lines of which several words cannot be read.
func TestManyWrong(t *testing.T) {
	for _, line := range []string{
		"place x y z", "place 0 x 0", "place 01 9 9", "stop x y", "march 9 -0 9", "train 0 1 +", "seen 01", "far 1 1 1 01", "far 1000001 x 0 0",
		"dice -0 -1", "dice 0 00", "field 9 x +", "field -0 0 .............", "field 0 +0 .", "field x y z", "field 01 0 ", "field 1 00 ",
	} {
		plays(t, line, "bad")
		if got := behind(t, scene(), line); got != "bad" {
			t.Errorf("%q, in a world: got %q", line, got)
		}
	}
}
