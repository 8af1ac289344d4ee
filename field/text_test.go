package field_test

import (
	"slices"
	"strings"
	"testing"

	"marchland/api"
	"marchland/field"
	"marchland/plain"
)

// TestPrintSigns: C2, the sign of each ground, and of ores.
func TestPrintSigns(t *testing.T) {
	for _, c := range []struct {
		ground, ore int
		want        string
	}{
		{api.Plain, 0, ".\n"}, {api.Rock, 0, "#\n"}, {api.Water, 0, "~\n"}, {api.Forest, 0, "^\n"},
		{api.Plain, 1, "+\n"}, {api.Plain, 5, "+\n"}, {api.Plain, 9, "+\n"}, {api.Plain, 10, "1\n"},
		{api.Plain, 11, "+\n"}, {api.Plain, 19, "+\n"}, {api.Plain, 20, "2\n"}, {api.Plain, 50, "5\n"},
		{api.Plain, 80, "8\n"}, {api.Plain, 89, "+\n"}, {api.Plain, 90, "9\n"}, {api.Plain, 91, "+\n"},
		{api.Plain, 95, "+\n"}, {api.Plain, 99, "+\n"}, {api.Plain, 100, "+\n"}, {api.Plain, 110, "+\n"},
		{api.Plain, 2570, "+\n"}, {api.Plain, api.MaxNumber, "+\n"},
	} {
		got, err := field.Print(with(bare(1, 1), 0, c.ground, c.ore))
		if got != c.want || err != nil {
			t.Errorf("ground %d, ore %d: got %q, %v; want %q", c.ground, c.ore, got, err, c.want)
		}
	}
}

// TestPrint: C2, rows are lines, from above, and columns signs, from the left.
func TestPrint(t *testing.T) {
	f := api.Field{Wide: 4, High: 3,
		Ground: []int{0, 1, 2, 3, 0, 0, 0, 0, 3, 3, 1, 0},
		Ore:    []int{0, 0, 0, 0, 10, 90, 95, 100, 0, 0, 0, 30}}
	if got, err := field.Print(f); got != ".#~^\n19++\n^^#3\n" || err != nil {
		t.Errorf("got %q, %v", got, err)
	}
}

// TestParse: C2, ordinary texts.
func TestParse(t *testing.T) {
	for _, c := range []struct {
		text string
		want api.Field
	}{
		{".\n", api.Field{Wide: 1, High: 1, Ground: []int{0}, Ore: []int{0}}},
		{".#~^\n", api.Field{Wide: 4, High: 1, Ground: []int{0, 1, 2, 3}, Ore: []int{0, 0, 0, 0}}},
		{"^\n~\n#\n.\n", api.Field{Wide: 1, High: 4, Ground: []int{3, 2, 1, 0}, Ore: []int{0, 0, 0, 0}}},
		{"123\n456\n789\n", api.Field{Wide: 3, High: 3, Ground: make([]int, 9), Ore: []int{10, 20, 30, 40, 50, 60, 70, 80, 90}}},
		{".1\n^~\n9#\n", api.Field{Wide: 2, High: 3, Ground: []int{0, 0, 3, 2, 0, 1}, Ore: []int{0, 10, 0, 0, 90, 0}}},
	} {
		got, at, err := field.Parse(c.text)
		if !alike(got, c.want) || at != 0 || err != nil {
			t.Errorf("%q: got %v, %d, %v; want %v", c.text, got, at, err, c.want)
		}
	}
}

// lines is a text of so many lines that are so wide.
func lines(wide, high int) string { return strings.Repeat(strings.Repeat("~", wide)+"\n", high) }

// TestParseOfWrong: C2, each way to be wrong, and its place.
func TestParseOfWrong(t *testing.T) {
	for _, c := range []struct {
		name, text string
		at         int
		told       api.Errno
	}{
		{"nothing", "", 0, api.ErrSyntax},
		{"an empty line alone", "\n", 0, api.ErrSyntax},
		{"an empty line first", "\n..\n", 0, api.ErrSyntax},
		{"an empty line between", "..\n\n..\n", 3, api.ErrSyntax},
		{"an empty line last", "..\n..\n\n", 6, api.ErrSyntax},
		{"a short line between", "...\n..\n...\n", 6, api.ErrSyntax},
		{"a short line last", "...\n.\n", 5, api.ErrSyntax},
		{"a short line, and then a byte that is no sign", "...\n..\nx", 6, api.ErrSyntax},
		{"a wide line", "..\n...\n", 5, api.ErrSyntax},
		{"a wide line of one", ".\n..\n.\n", 3, api.ErrSyntax},
		{"one sign that does not end", ".", 1, api.ErrSyntax},
		{"a first line that does not end", "...", 3, api.ErrSyntax},
		{"a last line that does not end", "...\n...", 7, api.ErrSyntax},
		{"a short last line that does not end", "...\n.", 5, api.ErrSyntax},
		{"a wide last line that does not end", "..\n...", 5, api.ErrSyntax},
		{"+ alone", "+", 0, api.ErrSyntax},
		{"+ first", "+.\n", 0, api.ErrSyntax},
		{"+ later", "..\n.+\n", 4, api.ErrSyntax},
		{"0", ".0\n", 1, api.ErrSyntax},
		{"a letter", ".\nx", 2, api.ErrSyntax},
		{"a blank", ". .\n", 1, api.ErrSyntax},
		{"a byte 13", "..\r\n..\r\n", 2, api.ErrSyntax},
		{"a byte 0", "\x00", 0, api.ErrSyntax},
		{"a byte 255", "..\n\xff", 3, api.ErrSyntax},
		{"a sign of two bytes", ".é\n", 1, api.ErrSyntax},
		{"two bytes that are none", "x\n+", 0, api.ErrSyntax},
		{"behind the first byte none is told", "..x..\n\n+", 2, api.ErrSyntax},

		{"a sign beyond in the first line", lines(13, 1), 12, api.ErrFull},
		{"a sign beyond that does not end", strings.Repeat(".", 13), 12, api.ErrFull},
		{"many signs beyond", lines(500, 2), 12, api.ErrFull},
		{"a byte that is none, where a sign is beyond", strings.Repeat(".", 12) + "x\n", 12, api.ErrSyntax},
		{"+ where a sign is beyond", strings.Repeat(".", 12) + "+\n", 12, api.ErrSyntax},
		{"the most signs that do not end", strings.Repeat(".", 12), 12, api.ErrSyntax},
		{"a sign beyond in a later line cannot stand there", lines(12, 1) + lines(13, 1), 25, api.ErrSyntax},
		{"a sign beyond in the last line cannot stand there", lines(12, 11) + lines(13, 1), 155, api.ErrSyntax},
		{"a line beyond", lines(1, 13), 24, api.ErrFull},
		{"a line beyond that does not end", lines(1, 12) + ".", 24, api.ErrFull},
		{"a line beyond, of the most signs", lines(12, 13), 156, api.ErrFull},
		{"a line beyond that is too wide", lines(1, 12) + "..\n", 24, api.ErrFull},
		{"a line beyond that is too short", lines(3, 12) + ".\n", 48, api.ErrFull},
		{"many lines beyond", lines(5, 500), 72, api.ErrFull},
		{"an empty line beyond", lines(1, 12) + "\n", 24, api.ErrSyntax},
		{"a byte that is none in a line beyond", lines(1, 12) + "x", 24, api.ErrSyntax},
		{"+ in a line beyond", lines(1, 12) + "+\n", 24, api.ErrSyntax},
		{"the last of the most lines does not end", lines(2, 11) + "..", 35, api.ErrSyntax},
	} {
		f, at, err := field.Parse(c.text)
		if !alike(f, api.Field{}) || at != c.at || plain.Told(err) != c.told {
			t.Errorf("%s: got %v, %d, %v; want %d, %v", c.name, f, at, err, c.at, c.told)
		}
	}
}

// TestParseAtMost: C2, MaxSide signs in a line, and MaxSide lines.
func TestParseAtMost(t *testing.T) {
	for _, c := range [][2]int{{12, 1}, {1, 12}, {12, 12}, {11, 12}, {12, 11}} {
		f, at, err := field.Parse(lines(c[0], c[1]))
		if f.Wide != c[0] || f.High != c[1] || field.Check(f) != nil || at != 0 || err != nil {
			t.Errorf("%d wide, %d high: got %v, %d, %v", c[0], c[1], f, at, err)
		}
	}
}

// TestParseBytes: C2, each byte there is, as a sign.
func TestParseBytes(t *testing.T) {
	for b := range 256 {
		want := api.ErrSyntax
		if strings.IndexByte(".#~^123456789", byte(b)) >= 0 {
			want = api.OK
		}
		_, at, err := field.Parse(string([]byte{byte(b), 10}))
		if at != 0 || plain.Told(err) != want {
			t.Errorf("byte %d: got %d, %v; want %v", b, at, err, want)
		}
	}
}

// begins tells whether a text, with sides of any length, may begin so.
func begins(text string) bool {
	l := strings.Split(text, "\n")
	for i, s := range l {
		full, short := len(s) == len(l[0]) && s != "", len(s) <= len(l[0])
		if strings.Trim(s, ".#~^123456789") != "" || i < len(l)-1 && !full || !short {
			return false
		}
	}
	return true
}

// wantPlace is C2 byte by byte: the first place at which a text may not go on, and how.
func wantPlace(text string) (int, api.Errno) {
	for at := range len(text) {
		head := text[:at+1]
		line := head[strings.LastIndexByte(head, '\n')+1:]
		if !begins(head) {
			return at, api.ErrSyntax
		}
		if len(line) == 13 || len(line) == 1 && strings.Count(head, "\n") == 12 {
			return at, api.ErrFull
		}
	}
	if !strings.HasSuffix(text, "\n") {
		return len(text), api.ErrSyntax
	}
	return 0, api.OK
}

// parseLike holds Parse against wantPlace; what is right is printed again as it was.
func parseLike(t *testing.T, text string) {
	t.Helper()
	f, at, err := field.Parse(text)
	place, told := wantPlace(text)
	if at != place || plain.Told(err) != told {
		t.Fatalf("%q: got %d, %v; want %d, %v", text, at, err, place, told)
	}
	if err != nil && !alike(f, api.Field{}) {
		t.Fatalf("%q: got %v with the error %v", text, f, err)
	}
	if again, bad := field.Print(f); err == nil && (again != text || bad != nil) {
		t.Fatalf("%q: printed again as %q, %v", text, again, bad)
	}
}

// TestParseShortTexts: C2, all texts of few bytes.
func TestParseShortTexts(t *testing.T) {
	texts := []string{""}
	for range 8 {
		var longer []string
		for _, s := range texts {
			parseLike(t, s)
			for _, b := range []string{".", "9", "\n", "+"} {
				longer = append(longer, s+b)
			}
		}
		texts = longer
	}
}

// TestParseAboutMost: C2, texts about the greatest, whole, cut off, and with another byte at each place.
func TestParseAboutMost(t *testing.T) {
	for _, c := range [][2]int{{1, 12}, {1, 13}, {2, 14}, {12, 1}, {13, 1}, {14, 2}, {12, 12}, {13, 13}, {12, 13}, {13, 12}} {
		text := lines(c[0], c[1])
		parseLike(t, text)
		for at := range len(text) {
			parseLike(t, text[:at])
			parseLike(t, text[:at]+text[at+1:])
			for _, b := range []string{".", "\n", "+", "x", "9"} {
				parseLike(t, text[:at]+b+text[at+1:])
				parseLike(t, text[:at]+b+text[at:])
			}
		}
	}
}

// TestParseIsFresh: P2, each answer's lists are the caller's, and share nothing.
func TestParseIsFresh(t *testing.T) {
	const text = "12\n.#\n"
	f, _, _ := field.Parse(text)
	g := read(t, text)
	for i := range f.Ground[:cap(f.Ground)] {
		f.Ground[:cap(f.Ground)][i] = 5
	}
	if !slices.Equal(f.Ore, []int{10, 20, 0, 0}) {
		t.Errorf("what was written into the grounds stands in the ores: %v", f.Ore)
	}
	for i := range f.Ore[:cap(f.Ore)] {
		f.Ore[:cap(f.Ore)][i] = 6
	}
	want := api.Field{Wide: 2, High: 2, Ground: []int{0, 0, 0, 1}, Ore: []int{10, 20, 0, 0}}
	if !slices.Equal(f.Ground, []int{5, 5, 5, 5}) || !alike(g, want) || !alike(read(t, text), want) {
		t.Errorf("what was written into an answer stands in another list: %v, %v", f, g)
	}
}
