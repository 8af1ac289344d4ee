package run_test

import (
	"strconv"
	"strings"
	"testing"
)

// TestRowsOfFields: ROWS as chapter 3's Parse takes them, and as it does not.
func TestRowsOfFields(t *testing.T) {
	wide := strings.Repeat(".", 12)
	high := strings.TrimSuffix(strings.Repeat("./", 12), "/")
	for _, c := range []struct{ rows, want string }{
		{".", "ok"}, {"#", "ok"}, {"~", "ok"}, {"^", "ok"}, {"1", "ok"}, {"9", "ok"}, {"..", "ok"}, {"./.", "ok"},
		{".#~^/1234/5678/9...", "ok"}, {"123456789.#~", "ok"},
		{wide, "ok"}, {high, "ok"}, {strings.TrimSuffix(strings.Repeat(wide+"/", 12), "/"), "ok"},

		{"", "ErrSyntax"}, {"/", "ErrSyntax"}, {"//", "ErrSyntax"}, {"/.", "ErrSyntax"}, {"./", "ErrSyntax"}, {"/./", "ErrSyntax"},
		{".//.", "ErrSyntax"}, {"..//..", "ErrSyntax"}, {"../../", "ErrSyntax"}, {"/../..", "ErrSyntax"}, {"..///..", "ErrSyntax"},
		{"../.", "ErrSyntax"}, {"./..", "ErrSyntax"}, {"../../.", "ErrSyntax"}, {"../../...", "ErrSyntax"}, {".../..", "ErrSyntax"},
		{"+", "ErrSyntax"}, {".+", "ErrSyntax"}, {"0", "ErrSyntax"}, {"10", "ErrSyntax"}, {"x", "ErrSyntax"}, {"-1", "ErrSyntax"}, {"-", "ErrSyntax"},
		{".\\.", "ErrSyntax"}, {".,.", "ErrSyntax"}, {".|.", "ErrSyntax"}, {".\t", "ErrSyntax"}, {".\r", "ErrSyntax"}, {".\x00", "ErrSyntax"},
		{"./.\r", "ErrSyntax"}, {".\\n.", "ErrSyntax"}, {"\xff", "ErrSyntax"}, {"．", "ErrSyntax"}, {"é", "ErrSyntax"}, {"\u00a0", "ErrSyntax"},

		{wide + ".", "ErrFull"}, {wide + "9", "ErrFull"}, {wide + "./.", "ErrFull"}, {wide + "./x", "ErrFull"}, {wide + ".x", "ErrFull"},
		{high + "/.", "ErrFull"}, {high + "/./.", "ErrFull"}, {high + "/.x", "ErrFull"}, {strings.Repeat(".", 200), "ErrFull"},
		{wide + "x", "ErrSyntax"}, {wide + "+", "ErrSyntax"}, {"x" + wide, "ErrSyntax"}, {wide + "/" + wide + ".", "ErrSyntax"},
		{high + "/", "ErrSyntax"}, {high + "//", "ErrSyntax"}, {high + "/x", "ErrSyntax"}, {high + "/0", "ErrSyntax"}, {high + "..", "ErrSyntax"},
	} {
		plays(t, "field 1 0 "+c.rows, c.want)
		if got := behind(t, scene(), "field 1 0 "+c.rows); got != c.want {
			t.Errorf("%q, in a world: got %q, want %q", c.rows, got, c.want)
		}
	}
}

// TestEachSign: every byte as the only cell, and as the last one of several; but the blank, which ends the word, and the line's end.
func TestEachSign(t *testing.T) {
	for b := range 256 {
		sign := string([]byte{byte(b)})
		if sign == " " || sign == "\n" {
			continue
		}
		want := "ErrSyntax"
		if strings.Contains(".#~^123456789", sign) {
			want = "ok"
		}
		answers(t, "field 1 0 "+sign, want+"\n")
		answers(t, "field 1 0 ../.."+"/."+sign+"\n", want+"\n")
	}
	answers(t, "field 1 0  ", "bad\n")
	answers(t, "field 1 0 . ", "bad\n")
	answers(t, "field 1 0 \n.", "ErrSyntax\nbad\n")
}

// TestWorldOfField: what stands where, by the numbers of the world's bytes.
func TestWorldOfField(t *testing.T) {
	for _, c := range []struct {
		line    string
		numbers []int
	}{
		{"field 1 0 .", []int{0, 1, 1, 1, 1, 0, 1, 0, 1, 0, 0, 0}},
		{"field 4 1000000 .", []int{0, 1, 1, 1, 1, 0, 1, 0, 4, 1000000, 1000000, 1000000, 1000000, 0, 0}},
		{"field 2 7 .#/~^/19", []int{0, 1, 2, 3, 6, 0, 1, 2, 3, 0, 0, 6, 0, 0, 0, 0, 10, 90, 2, 7, 7, 0, 0}},
		{"field 3 64 5^.", []int{0, 1, 3, 1, 3, 0, 3, 0, 3, 50, 0, 0, 3, 64, 64, 64, 0, 0}},
	} {
		plays(t, c.line, "ok", "sum", strconv.Itoa(sumOf(c.numbers)), "units", "-")
	}
	// The first two by hand, of the bytes alone.
	plays(t, "field 1 0 .", "ok", "sum", "576503899")
	plays(t, "field 4 1000000 .", "ok", "sum", "157116886")
}

// wrongFields are lines of all errors that field may tell.
func wrongFields() []struct{ line, want string } {
	return []struct{ line, want string }{
		{"field 1 0 ", "ErrSyntax"}, {"field 1 0 +", "ErrSyntax"}, {"field 1 0 ./", "ErrSyntax"}, {"field 1 0 ../.", "ErrSyntax"},
		{"field 1 0 .............", "ErrFull"}, {"field 1 0 ./././././././././././././.", "ErrFull"},
		{"field 0 0 .", "ErrRange"}, {"field -1 0 .", "ErrRange"}, {"field 5 0 .", "ErrRange"}, {"field 999999999 0 .", "ErrRange"}, {"field -999999999 0 .", "ErrRange"},
		{"field 1 -1 .", "ErrRange"}, {"field 1 1000001 .", "ErrRange"}, {"field 4 999999999 .", "ErrRange"}, {"field 4 -999999999 .", "ErrRange"},
		{"field 0 -1 .", "ErrRange"}, {"field 5 1000001 .", "ErrRange"},
		// What is wrong with the rows is told ahead of what is wrong with the numbers.
		{"field 0 0 x", "ErrSyntax"}, {"field 1 -1 ", "ErrSyntax"}, {"field 5 1000001 ./..", "ErrSyntax"},
		{"field 0 0 .............", "ErrFull"}, {"field 1 1000001 .............", "ErrFull"},
	}
}

// TestFieldRefused: by itself, and in a game: the world that was there, and the orders that wait, stay.
func TestFieldRefused(t *testing.T) {
	for _, c := range wrongFields() {
		plays(t, c.line, c.want, "units", "ErrState", "step", "ErrState", "stop 0 1", "ErrState")
		plays(t,
			"field 2 100 ...9", "ok", "place 0 0 0", "ok", "train 0 1 1", "ok", "train 0 1 1", "ok",
			c.line, c.want,
			"units", "1,0,0,0,50,0", "gold", "100 100",
			"train 0 1 2", "ok",
			"step", "0", "gold", "60 100",
			c.line, c.want,
			"gold", "60 100", "step", "1", "units", "1,0,0,0,50,0 2,0,1,1,10,0")
	}
}

// TestFieldTaken: players and gold to their bounds, and a world in place of another one: no orders wait then.
func TestFieldTaken(t *testing.T) {
	plays(t, "field 1 0 .", "ok", "gold", "0")
	plays(t, "field 2 1 .", "ok", "gold", "1 1")
	plays(t, "field 3 999999 .", "ok", "gold", "999999 999999 999999")
	plays(t, "field 4 1000000 .", "ok", "gold", "1000000 1000000 1000000 1000000")
	plays(t,
		"field 2 100 ...9", "ok", "place 0 0 0", "ok", "place 1 1 1", "ok", "train 0 1 1", "ok", "step", "0", "gold", "90 100",
		"train 0 1 1", "ok", "march 1 2 2", "ok",
		"field 1 50 ../..", "ok",
		"units", "-", "gold", "50", "sum", strconv.Itoa(sumOf([]int{0, 1, 2, 2, 4, 0, 0, 0, 0, 4, 0, 0, 0, 0, 1, 50, 0, 0})),
		"place 0 0 3", "ok", "units", "1,0,0,3,50,0", "place 1 1 1", "ErrRange",
		"step", "0", "gold", "50", "units", "1,0,0,3,50,0",
		"train 0 1 1", "ok",
		"field 1 50 ../..", "ok", "place 0 0 3", "ok", "step", "0", "gold", "50",
		"step", "0", "step", "0", "units", "1,0,0,3,50,0")
}

// TestFieldFreesOrders: behind a field that is taken as many orders may wait as at first.
func TestFieldFreesOrders(t *testing.T) {
	text, want := "field 1 0 .\n", "ok\n"
	for range 2 {
		text += strings.Repeat("stop 0 1\n", 61) + "field 9 0 .\nstop 0 1\nfield 1 0 .\n"
		want += strings.Repeat("ok\n", 60) + "ErrFull\nErrRange\nErrFull\nok\n"
	}
	answers(t, text, want)
}

// TestPlace: what is taken, and each error of chapter 7's Place that may be.
func TestPlace(t *testing.T) {
	plays(t,
		"field 2 0 .#~^/....", "ok",
		"place 0 0 0", "ok", "units", "1,0,0,0,50,0",
		"place 0 0 0", "ErrState", "place 1 3 0", "ErrState", // one is there
		"place 0 0 1", "ErrState", "place 0 3 1", "ErrState", // Rock
		"place 0 0 2", "ErrState", "place 0 1 2", "ErrState", "place 1 2 2", "ErrState", // Water
		"place 0 3 2", "ok", "place 0 3 2", "ErrState",
		"place 1 1 3", "ok", // Forest
		"place 2 0 4", "ErrRange", "place -1 0 4", "ErrRange", "place 999999999 0 4", "ErrRange",
		"place 0 4 4", "ErrRange", "place 0 -1 4", "ErrRange", "place 0 -999999999 4", "ErrRange",
		"place 0 0 8", "ErrNone", "place 0 0 -1", "ErrNone", "place 1 3 999999999", "ErrNone",
		"place 2 0 8", "ErrRange", "place 0 4 8", "ErrRange", "place 0 4 0", "ErrRange", "place 2 4 -1", "ErrRange", "place 2 0 0", "ErrRange",
		"units", "1,0,0,0,50,0 2,0,3,2,8,0 3,1,1,3,10,0",
		"place 1 2 7", "ok", "units", "1,0,0,0,50,0 2,0,3,2,8,0 3,1,1,3,10,0 4,1,2,7,20,0")
	plays(t, "field 4 0 ....", "ok", "place 3 3 3", "ok", "place 4 3 2", "ErrRange", "place 0 0 0", "ok", "units", "1,3,3,3,8,0 2,0,0,0,50,0")
}

// TestPlaceFull: MaxUnits, which is told ahead of all else.
func TestPlaceFull(t *testing.T) {
	text, want := "field 1 0 "+strings.TrimSuffix(strings.Repeat("......./", 6), "/")+"\n", "ok\n"
	var units []string
	for at := range 42 {
		text += "place 0 1 " + strconv.Itoa(at) + "\n"
		if at >= 40 {
			want += "ErrFull\n"
			continue
		}
		want += "ok\n"
		id, cell := strconv.Itoa(at+1), strconv.Itoa(at)
		units = append(units, id+",0,1,"+cell+",10,0")
	}
	text += "place 1 0 41\nplace 0 4 41\nplace 0 0 42\nplace 0 0 0\nplace 9 9 99\nunits\n"
	want += "ErrFull\nErrFull\nErrFull\nErrFull\nErrFull\n" + strings.Join(units, " ") + "\n"
	answers(t, text, want)
}
