package kinds_test

import (
	"regexp"
	"slices"
	"strconv"
	"strings"
	"testing"

	"marchland/api"
	"marchland/kinds"
	"marchland/plain"
)

const fewText = "base 50 0 0 4 0 50 5 0 - t\n" +
	"digger 10 0 0 3 2 10 2 20 - -\n" +
	"fighter 20 4 1 4 2 20 3 0 - -\n" +
	"bird 8 3 2 5 3 25 3 0 f -\n"

// bare is a line of a kind with that name and nothing that can be left out.
func bare(name string) string { return name + " 1 0 0 0 0 0 0 0 - -\n" }

// bareLines is the text of some(n).
func bareLines(n int) string {
	text := ""
	for _, k := range some(n) {
		text += bare(k.Name)
	}
	return text
}

// TestPrint: K2, ordinary kinds, none, one, and the most.
func TestPrint(t *testing.T) {
	for _, c := range []struct {
		l    []api.Kind
		want string
	}{
		{nil, ""},
		{[]api.Kind{}, ""},
		{few(), fewText},
		{few()[3:], "bird 8 3 2 5 3 25 3 0 f -\n"},
		{some(1), "a 1 0 0 0 0 0 0 0 - -\n"},
		{some(8), bareLines(8)},
		{[]api.Kind{{Name: "abcdefgh", Life: 1000, Hit: 999, Range: 12, Sight: 11, Speed: 4, Price: 1000, Turns: 100, Carry: 10, Flies: true, Trains: true}},
			"abcdefgh 1000 999 12 11 4 1000 100 10 f t\n"},
		{[]api.Kind{{Name: "x", Life: 1, Hit: 2, Range: 3, Sight: 4, Speed: 0, Price: 6, Turns: 7, Carry: 8}},
			"x 1 2 3 4 0 6 7 8 - -\n"},
	} {
		if got, err := kinds.Print(c.l); got != c.want || err != nil {
			t.Errorf("%v: got %q, %v; want %q", c.l, got, err, c.want)
		}
	}
}

// TestMarks: K2, every pair of Flies and Trains, printed and read.
func TestMarks(t *testing.T) {
	for _, c := range []struct {
		flies, trains bool
		want          string
	}{
		{false, false, "a 1 0 0 0 0 0 0 0 - -\n"},
		{false, true, "a 1 0 0 0 0 0 0 0 - t\n"},
		{true, false, "a 1 0 0 0 0 0 0 0 f -\n"},
		{true, true, "a 1 0 0 0 0 0 0 0 f t\n"},
	} {
		l := []api.Kind{{Name: "a", Life: 1, Flies: c.flies, Trains: c.trains}}
		if got, err := kinds.Print(l); got != c.want || err != nil {
			t.Errorf("flies %v, trains %v: got %q, %v; want %q", c.flies, c.trains, got, err, c.want)
		}
		if got, at, err := kinds.Parse(c.want); !slices.Equal(got, l) || at != 0 || err != nil {
			t.Errorf("%q: got %v, %d, %v; want %v", c.want, got, at, err, l)
		}
	}
}

// TestNumbersHaveTheirPlace: K2, each number at its least, its most and between, printed at its own word and read from there.
func TestNumbersHaveTheirPlace(t *testing.T) {
	for i, p := range parts {
		for n := p.least; n <= p.most; n++ {
			k := named("a")
			*p.of(&k) = n
			words := strings.Split("a 1 0 0 0 0 0 0 0 - -", " ")
			words[1+i] = strconv.Itoa(n)
			want := strings.Join(words, " ") + "\n"
			if got, err := kinds.Print([]api.Kind{k}); got != want || err != nil {
				t.Errorf("%s %d: got %q, %v; want %q", p.name, n, got, err, want)
			}
			if got, at, err := kinds.Parse(want); !slices.Equal(got, []api.Kind{k}) || at != 0 || err != nil {
				t.Errorf("%q: got %v, %d, %v; want %v", want, got, at, err, k)
			}
		}
	}
}

// TestPrintOfWrong: K2, wrong kinds have no text.
func TestPrintOfWrong(t *testing.T) {
	for _, c := range wrong {
		if got, err := kinds.Print(c.l); got != "" || plain.Told(err) != c.told {
			t.Errorf("%s: got %q, %v; want %v", c.name, got, err, c.told)
		}
	}
}

// TestParse: K2, what Print gives.
func TestParse(t *testing.T) {
	for _, c := range []struct {
		text string
		want []api.Kind
	}{
		{"", nil},
		{fewText, few()},
		{"bird 8 3 2 5 3 25 3 0 f -\nbase 50 0 0 4 0 50 5 0 - t\n", []api.Kind{few()[3], few()[0]}},
		{bareLines(1), some(1)},
		{bareLines(7), some(7)},
		{bareLines(8), some(8)},
		{"abcdefgh 1000 999 12 11 4 1000 100 10 f t\n",
			[]api.Kind{{Name: "abcdefgh", Life: 1000, Hit: 999, Range: 12, Sight: 11, Speed: 4, Price: 1000, Turns: 100, Carry: 10, Flies: true, Trains: true}}},
	} {
		if got, at, err := kinds.Parse(c.text); !slices.Equal(got, c.want) || at != 0 || err != nil {
			t.Errorf("%q: got %v, %d, %v; want %v", c.text, got, at, err, c.want)
		}
	}
}

// TestParseWrongLines: K2, each way in which a line is wrong, alone, behind others, and ahead of a worse one.
func TestParseWrongLines(t *testing.T) {
	for _, c := range []struct {
		name, line string
		told       api.Errno
	}{
		{"an empty line", "", api.ErrSyntax},
		{"a blank alone", " ", api.ErrSyntax},
		{"a name alone", "x", api.ErrSyntax},
		{"ten words", "x 1 0 0 0 0 0 0 0 -", api.ErrSyntax},
		{"ten words, a number missing", "x 1 0 0 0 0 0 0 - -", api.ErrSyntax},
		{"ten words, the name missing", "1 0 0 0 0 0 0 0 - -", api.ErrSyntax},
		{"twelve words", "x 1 0 0 0 0 0 0 0 - - -", api.ErrSyntax},
		{"twelve words, a number more", "x 1 0 0 0 0 0 0 0 0 - -", api.ErrSyntax},
		{"very many words", strings.Repeat("x ", 5000), api.ErrSyntax},
		{"a blank ahead", " x 1 0 0 0 0 0 0 0 - -", api.ErrSyntax},
		{"a blank in the name's place", " 1 0 0 0 0 0 0 0 - -", api.ErrSyntax},
		{"a blank behind", "x 1 0 0 0 0 0 0 0 - - ", api.ErrSyntax},
		{"a blank in the last word's place", "x 1 0 0 0 0 0 0 0 - ", api.ErrSyntax},
		{"two blanks behind the name", "x  1 0 0 0 0 0 0 0 - -", api.ErrSyntax},
		{"two blanks between numbers", "x 1 0 0  0 0 0 0 0 - -", api.ErrSyntax},
		{"two blanks, and eleven pieces", "x 1 0 0  0 0 0 0 - -", api.ErrSyntax},
		{"two blanks ahead of a mark", "x 1 0 0 0 0 0 0 0  - -", api.ErrSyntax},
		{"two blanks between the marks", "x 1 0 0 0 0 0 0 0 -  -", api.ErrSyntax},
		{"a tab for a blank", "x\t1 0 0 0 0 0 0 0 - -", api.ErrSyntax},
		{"a byte 13 at the end", "x 1 0 0 0 0 0 0 0 - -\r", api.ErrSyntax},
		{"a needless 0", "x 01 0 0 0 0 0 0 0 - -", api.ErrSyntax},
		{"0 twice", "x 1 00 0 0 0 0 0 0 - -", api.ErrSyntax},
		{"0 four times", "x 1 0 0 0 0 0 0 0000 - -", api.ErrSyntax},
		{"five digits", "x 10000 0 0 0 0 0 0 0 - -", api.ErrSyntax},
		{"five digits, with a needless 0", "x 01000 0 0 0 0 0 0 0 - -", api.ErrSyntax},
		{"five digits at the last number", "x 1 0 0 0 0 0 0 99999 - -", api.ErrSyntax},
		{"far too many digits", "x 1 0 0 0 0 0 0 99999999999999999999999 - -", api.ErrSyntax},
		{"a + ahead", "x +1 0 0 0 0 0 0 0 - -", api.ErrSyntax},
		{"a - ahead", "x 1 -1 0 0 0 0 0 0 - -", api.ErrSyntax},
		{"a - ahead of Life", "x -5 0 0 0 0 0 0 0 - -", api.ErrSyntax},
		{"a - ahead of 0", "x 1 -0 0 0 0 0 0 0 - -", api.ErrSyntax},
		{"a - ahead, and three digits", "x 1 0 0 0 0 0 0 -999 - -", api.ErrSyntax},
		{"a - for a number", "x 1 0 0 0 0 0 0 - - -", api.ErrSyntax},
		{"a letter for a number", "x 1 0 0 y 0 0 0 0 - -", api.ErrSyntax},
		{"a letter in a number", "x 1 0 0 1y 0 0 0 0 - -", api.ErrSyntax},
		{"a number with a part", "x 1 0 0 0.5 0 0 0 0 - -", api.ErrSyntax},
		{"a number with a line between", "x 1 0 0 0 0 1_0 0 0 - -", api.ErrSyntax},
		{"a number of another base", "x 0x1 0 0 0 0 0 0 0 - -", api.ErrSyntax},
		{"a number with a power", "x 1e2 0 0 0 0 0 0 0 - -", api.ErrSyntax},
		{"digits of another script", "x ١ 0 0 0 0 0 0 0 - -", api.ErrSyntax},
		{"t where f may stand", "x 1 0 0 0 0 0 0 0 t -", api.ErrSyntax},
		{"f where t may stand", "x 1 0 0 0 0 0 0 0 - f", api.ErrSyntax},
		{"marks the other way round", "x 1 0 0 0 0 0 0 0 t f", api.ErrSyntax},
		{"F", "x 1 0 0 0 0 0 0 0 F -", api.ErrSyntax},
		{"T", "x 1 0 0 0 0 0 0 0 - T", api.ErrSyntax},
		{"ff", "x 1 0 0 0 0 0 0 0 ff -", api.ErrSyntax},
		{"tt", "x 1 0 0 0 0 0 0 0 - tt", api.ErrSyntax},
		{"--", "x 1 0 0 0 0 0 0 0 -- -", api.ErrSyntax},
		{"-- last", "x 1 0 0 0 0 0 0 0 - --", api.ErrSyntax},
		{"-f", "x 1 0 0 0 0 0 0 0 -f -", api.ErrSyntax},
		{"0 for a mark", "x 1 0 0 0 0 0 0 0 0 -", api.ErrSyntax},
		{"1 for a mark", "x 1 0 0 0 0 0 0 0 - 1", api.ErrSyntax},
		{"another letter for a mark", "x 1 0 0 0 0 0 0 0 - x", api.ErrSyntax},

		{"a name of nine letters", "abcdefghi 1 0 0 0 0 0 0 0 - -", api.ErrSyntax},
		{"a name with a great letter", "Base 1 0 0 0 0 0 0 0 - -", api.ErrSyntax},
		{"a number for a name", "7 1 0 0 0 0 0 0 0 - -", api.ErrSyntax},
		{"a name that is none, and no life", "x7 0 0 0 0 0 0 0 0 - -", api.ErrSyntax},
		{"no life", "x 0 0 0 0 0 0 0 0 - -", api.ErrRange},
		{"too much life", "x 1001 0 0 0 0 0 0 0 - -", api.ErrRange},
		{"too much life, of four digits", "x 9999 0 0 0 0 0 0 0 - -", api.ErrRange},
		{"too hard a hit", "x 1 1001 0 0 0 0 0 0 - -", api.ErrRange},
		{"too far a range", "x 1 0 13 0 0 0 0 0 - -", api.ErrRange},
		{"too far a sight", "x 1 0 0 13 0 0 0 0 - -", api.ErrRange},
		{"too fast", "x 1 0 0 0 5 0 0 0 - -", api.ErrRange},
		{"too dear", "x 1 0 0 0 0 1001 0 0 - -", api.ErrRange},
		{"too many turns", "x 1 0 0 0 0 0 9999 0 - -", api.ErrRange},
		{"too great a load", "x 1 0 0 0 0 0 0 1001 - -", api.ErrRange},
		{"no life, and a word too many", "x 0 0 0 0 0 0 0 0 - - -", api.ErrSyntax},
		{"no life, and five digits", "x 0 0 0 0 0 0 0 10000 - -", api.ErrSyntax},
	} {
		for ahead := range 8 {
			for _, behind := range []string{"", "\n", "?", bare("x"), bare("A"), bare("a"), "x 0 0 0 0 0 0 0 0 - -\n", bareLines(9)} {
				got, at, err := kinds.Parse(bareLines(ahead) + c.line + "\n" + behind)
				if got != nil || at != ahead || plain.Told(err) != c.told {
					t.Errorf("%s, behind %d, ahead of %q: got %v, %d, %v; want %v", c.name, ahead, behind, got, at, err, c.told)
				}
			}
		}
	}
}

// TestParseClash: K2, a name that one of those ahead has.
func TestParseClash(t *testing.T) {
	for ahead := 1; ahead < 8; ahead++ {
		for _, k := range some(ahead) {
			for _, c := range []struct {
				line string
				told api.Errno
			}{
				{bare(k.Name), api.ErrClash},
				{k.Name + " 0 0 0 0 0 0 0 0 - -\n", api.ErrClash},
				{k.Name + " 01 0 0 0 0 0 0 0 - -\n", api.ErrSyntax},
				{bare(k.Name + "?"), api.ErrSyntax},
			} {
				got, at, err := kinds.Parse(bareLines(ahead) + c.line + "?\n")
				if got != nil || at != ahead || plain.Told(err) != c.told {
					t.Errorf("%q behind %d: got %v, %d, %v; want %v", c.line, ahead, got, at, err, c.told)
				}
			}
		}
	}
}

// TestParseDoesNotEnd: K2, a text without a byte 10 at its end, wherever it is cut off.
func TestParseDoesNotEnd(t *testing.T) {
	for _, text := range []string{fewText, bareLines(8), bareLines(9)} {
		for end := range len(text) {
			cut := text[:end]
			line := strings.Count(cut, "\n")
			if line == 9 || strings.HasSuffix(cut, "\n") || cut == "" {
				continue
			}
			got, at, err := kinds.Parse(cut)
			if got != nil || at != line || plain.Told(err) != api.ErrSyntax {
				t.Errorf("%q: got %v, %d, %v; want %d", cut, got, at, err, line)
			}
		}
	}
}

// TestParseNinth: K2, a ninth line is too many, if it is not wrong by its words; what Check would tell of it is not asked.
func TestParseNinth(t *testing.T) {
	for _, c := range []struct {
		name, line string
		told       api.Errno
	}{
		{"right", bare("i"), api.ErrFull},
		{"right, and more behind it", bare("i") + bare("j") + "\n", api.ErrFull},
		{"right, and a line that does not end behind it", bare("i") + "?", api.ErrFull},
		{"with a name that is there", bare("a"), api.ErrFull},
		{"with no life", "i 0 0 0 0 0 0 0 0 - -\n", api.ErrFull},
		{"too fast", "i 1 0 0 0 9999 0 0 0 - -\n", api.ErrFull},
		{"with a word for a name that is none", bare("I"), api.ErrFull},
		{"with too long a name", bare("abcdefghi"), api.ErrFull},
		{"with no word for a name", bare(""), api.ErrSyntax},
		{"empty", "\n", api.ErrSyntax},
		{"empty, and more behind it", "\n" + bare("i"), api.ErrSyntax},
		{"of ten words", "i 1 0 0 0 0 0 0 0 -\n", api.ErrSyntax},
		{"of twelve words", "i 1 0 0 0 0 0 0 0 - - -\n", api.ErrSyntax},
		{"with a needless 0", "i 01 0 0 0 0 0 0 0 - -\n", api.ErrSyntax},
		{"with five digits", "i 10000 0 0 0 0 0 0 0 - -\n", api.ErrSyntax},
		{"with a mark that is none", "i 1 0 0 0 0 0 0 0 t -\n", api.ErrSyntax},
		{"that does not end", "i 1 0 0 0 0 0 0 0 - -", api.ErrSyntax},
	} {
		got, at, err := kinds.Parse(bareLines(8) + c.line)
		if got != nil || at != 8 || plain.Told(err) != c.told {
			t.Errorf("%s: got %v, %d, %v; want %v", c.name, got, at, err, c.told)
		}
	}
	if got, at, err := kinds.Parse(bareLines(3) + bare("a") + bareLines(9)); got != nil || at != 3 || plain.Told(err) != api.ErrClash {
		t.Errorf("a fault ahead of the ninth line: got %v, %d, %v", got, at, err)
	}
}

// form is a line's words, by another way than the program's.
var form = regexp.MustCompile(`\A[^ ]+( (0|[1-9][0-9]{0,3})){8} [f-] [t-]\z`)

// wantLine is K2 line by line: the first line that is wrong, and how.
func wantLine(text string) (int, api.Errno) {
	lines := strings.Split(text, "\n")
	for i, line := range lines[:len(lines)-1] {
		if !form.MatchString(line) {
			return i, api.ErrSyntax
		}
		if i == 8 {
			return i, api.ErrFull
		}
		if told := wantKind(lines[:i], strings.Split(line, " ")); told != api.OK {
			return i, told
		}
	}
	if lines[len(lines)-1] != "" {
		return len(lines) - 1, api.ErrSyntax
	}
	return 0, api.OK
}

func wantKind(ahead, words []string) api.Errno {
	if len(words[0]) > 8 || strings.Trim(words[0], "abcdefghijklmnopqrstuvwxyz") != "" {
		return api.ErrSyntax
	}
	for _, line := range ahead {
		if strings.HasPrefix(line, words[0]+" ") {
			return api.ErrClash
		}
	}
	for i, p := range parts {
		if n, _ := strconv.Atoi(words[1+i]); n < p.least || n > p.most {
			return api.ErrRange
		}
	}
	return api.OK
}

// parseLike holds Parse against wantLine; what is right is printed again as it was.
func parseLike(t *testing.T, text string) {
	l, at, err := kinds.Parse(text)
	line, told := wantLine(text)
	if at != line || plain.Told(err) != told {
		t.Fatalf("%q: got %d, %v; want %d, %v", text, at, err, line, told)
	}
	if err != nil && l != nil {
		t.Fatalf("%q: got %v with the error %v", text, l, err)
	}
	if again, bad := kinds.Print(l); err == nil && (again != text || bad != nil) {
		t.Fatalf("%q: printed again as %q, %v", text, again, bad)
	}
}

// TestParseEveryByte: K2, texts with each byte there is at each place, in place of the one there or ahead of it, or with one left out.
func TestParseEveryByte(t *testing.T) {
	const most = "abcdefgh 1000 1000 12 12 4 1000 1000 1000 f t\n"
	for _, text := range []string{fewText, most + bareLines(1), bareLines(7) + "z 10 2 3 4 1 60 7 80 f t\n" + bare("i")} {
		for at := range len(text) {
			parseLike(t, text[:at])
			parseLike(t, text[at:])
			parseLike(t, text[:at]+text[at+1:])
			for b := range 256 {
				one := string([]byte{byte(b)})
				parseLike(t, text[:at]+one+text[at+1:])
				parseLike(t, text[:at]+one+text[at:])
			}
		}
		parseLike(t, text)
	}
}

// TestParseTwoFaults: K2, two wrong lines: the first one is told; two faults in one line.
func TestParseTwoFaults(t *testing.T) {
	const text = "base 50 1 2 4 0 50 5 0 - t\nbird 8 3 2 5 3 25 3 0 f -\n"
	bytes := []string{"", " ", "0", "9", "a", "-", "\n", "t"}
	for at := range len(text) {
		for to := at + 1; to < len(text); to++ {
			for _, a := range bytes {
				for _, b := range bytes {
					parseLike(t, text[:at]+a+text[at+1:to]+b+text[to+1:])
				}
			}
		}
	}
}

// TestParseIsFresh: P2, each answer is the caller's.
func TestParseIsFresh(t *testing.T) {
	l, _, _ := kinds.Parse(fewText)
	again, _, _ := kinds.Parse(fewText)
	for i := range l[:cap(l)] {
		l[:cap(l)][i] = named("other")
	}
	last, _, _ := kinds.Parse(fewText)
	if !slices.Equal(again, few()) || !slices.Equal(last, few()) {
		t.Errorf("what was written into an answer stands in another one: %v, %v", again, last)
	}
}
