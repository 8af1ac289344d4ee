package run_test

import (
	"strconv"
	"strings"
	"testing"

	"marchland/run"
)

// games are whole games, worked by hand from the chapters: lines, each followed by its answer.
func games() map[string][]string {
	return map[string][]string{
		"who is trained, and digs": {
			"units", "ErrState",
			"field 1 10 ...9", "ok",
			"place 0 0 0", "ok",
			"train 0 1 1", "ok",
			"gold", "10",
			"step", "0", // the Gold is spent, and one turn is left
			"gold", "0",
			"step", "1", // it Came beside the base
			"units", "1,0,0,0,50,0 2,0,1,1,10,0",
			"gather 0 2 3", "ok",
			"step", "3", // two cells, and 10 of ore
			"units", "1,0,0,0,50,0 2,0,1,3,10,10",
			"step", "1", // 10 more
			"units", "1,0,0,0,50,0 2,0,1,3,10,20",
			"step", "3", // two cells back, and it brought all
			"units", "1,0,0,0,50,0 2,0,1,1,10,0",
			"gold", "20",
			"step", "3",
			"stop 0 2", "ok",
			"step", "0", // at rest nothing is dug
			"units", "1,0,0,0,50,0 2,0,1,3,10,10",
			"march 0 2 1", "ok",
			"step", "3",
			"gold", "30",
			"train 0 1 2", "ok",
			"train 0 1 2", "ok", // the second one is refused: 10 are left
			"step", "0",
			"gold", "10",
			"step", "0",
			"step", "1",
			"units", "1,0,0,0,50,0 2,0,1,1,10,0 3,0,2,2,20,0",
			"seen 0", "4",
		},
		"two fighters meet": {
			"field 2 0 ....", "ok",
			"place 0 2 0", "ok",
			"place 1 2 3", "ok",
			"step", "0", // too far for both
			"march 0 1 2", "ok",
			"step", "4", // two cells, and two are struck
			"units", "1,0,2,2,16,0 2,1,2,3,16,0",
			"step", "2",
			"step", "2",
			"step", "2",
			"units", "1,0,2,2,4,0 2,1,2,3,4,0",
			"seen 0", "4",
			"step", "4", // both fall at once
			"units", "-",
			"seen 0", "0",
			"step", "0",
			"place 1 1 3", "ok",
			"units", "3,1,1,3,10,0", // ids are not given again
		},
		"a bird strikes over the water": {
			"field 2 0 .~./~~~/...", "ok",
			"place 0 3 0", "ok",
			"place 1 0 8", "ok",
			"march 0 1 1", "ok",
			"step", "2", // it gets there in one, from where it is 2 apart
			"units", "1,0,3,1,8,0 2,1,0,8,47,0",
			"march 0 1 0", "ok",
			"step", "2", // across it is 2 apart too: 2.8, rounded down
			"units", "1,0,3,0,8,0 2,1,0,8,44,0",
			"step", "1", "step", "1", "step", "1", "step", "1", "step", "1", "step", "1", "step", "1",
			"step", "1", "step", "1", "step", "1", "step", "1", "step", "1", "step", "1", "step", "1",
			"units", "1,0,3,0,8,0 2,1,0,8,2,0",
			"seen 1", "9",
			"step", "2",
			"units", "1,0,3,0,8,0",
			"seen 1", "0",
		},
		"no room for the second one": {
			"field 1 100 ..", "ok",
			"place 0 0 0", "ok",
			"train 0 1 1", "ok",
			"train 0 1 1", "ok",
			"step", "0", // the first alone is trained
			"gold", "80",
			"step", "1",
			"step", "0",
			"step", "0",
			"step", "0",
			"units", "1,0,0,0,50,0 2,0,1,1,10,0",
			"train 0 1 0", "ok",
			"train 0 1 0", "ok", // the second one is refused
			"step", "0",
			"gold", "30",
		},
		"through the forest": {
			"field 1 0 .^9", "ok",
			"place 0 1 0", "ok",
			"gather 0 1 2", "ok",
			"step", "1", // into the forest is twice as far
			"units", "1,0,1,1,10,0",
			"step", "2",
			"step", "1",
			"step", "0", // it has all it can carry, and there is nobody to bring it to
			"units", "1,0,1,2,10,20",
			"place 0 0 1", "ok",
			"step", "1",
			"gold", "20",
			"step", "2", // dug and brought in one turn
			"gold", "30",
			"units", "1,0,1,2,10,0 2,0,0,1,50,0",
		},
		"one stands in the way": {
			"field 2 5 .../###", "ok",
			"place 0 1 0", "ok",
			"place 1 0 1", "ok",
			"march 0 1 2", "ok",
			"step", "0",
			"units", "1,0,1,0,10,0 2,1,0,1,50,0",
			"march 1 1 2", "ok", // it is no unit of this player
			"stop 1 1", "ok",
			"step", "0",
			"train 1 2 1", "ok", // too little Gold
			"train 0 2 1", "ok", // not its unit
			"train 0 1 1", "ok", // one that does not train
			"step", "0",
			"gold", "5 5",
			"seen 0", "5", // the last cell is behind Rock
			"place 1 3 2", "ok",
			"step", "1", // the bird strikes over its base
			"units", "1,0,1,0,7,0 2,1,0,1,50,0 3,1,3,2,8,0",
			"step", "1",
			"step", "1",
			"step", "2", // and what is struck falls
			"units", "2,1,0,1,50,0 3,1,3,2,8,0",
			"march 0 1 2", "ok",
			"step", "0",
		},
	}
}

// TestGames: whole games, and all their beginnings.
func TestGames(t *testing.T) {
	for name, pairs := range games() {
		t.Run(name, func(t *testing.T) { plays(t, pairs...) })
	}
}

// textOf is the text of a game.
func textOf(pairs []string) (text string) {
	for i := 0; i < len(pairs); i += 2 {
		text += pairs[i] + "\n"
	}
	return text
}

// begins tells whether the answers to each beginning of a text are the beginning of the answers to all, a line for each line (Z2).
func begins(t *testing.T, text string) {
	t.Helper()
	whole := run.Run(text)
	for i := range len(text) + 1 {
		got := run.Run(text[:i])
		lines := strings.Count(text[:i], "\n")
		if i > 0 && text[i-1] != '\n' {
			lines++ // not ended, and answered all the same
		}
		if strings.Count(got, "\n") != lines || got != "" && !strings.HasSuffix(got, "\n") {
			t.Fatalf("%q: %d lines answered %q", text[:i], lines, got)
		}
		if i == 0 || text[i-1] == '\n' {
			if !strings.HasPrefix(whole, got) {
				t.Fatalf("%q: got %q; but all is answered %q", text[:i], got, whole)
			}
		}
	}
	if again := run.Run(text); again != whole {
		t.Fatalf("%q: got %q, and then %q", text, whole, again)
	}
}

// TestBeginnings: Z2, of whole games, one behind the other too.
func TestBeginnings(t *testing.T) {
	all := ""
	for _, pairs := range games() {
		text := textOf(pairs)
		begins(t, text)
		begins(t, strings.TrimSuffix(text, "\n"))
		all += text
	}
	if len(all) > 3000 {
		t.Fatalf("%d bytes", len(all))
	}
	begins(t, all)
}

// TestBeginningsOfTooLong: what is too long is answered so, though its beginnings are not.
func TestBeginningsOfTooLong(t *testing.T) {
	text := textOf(games()["two fighters meet"])
	text += strings.Repeat("step\n", (3000-len(text))/5)
	text += strings.Repeat("\n", 3000-len(text))
	begins(t, text)
	if got := run.Run(text); len(text) != 3000 || strings.Contains(got, "too long") {
		t.Errorf("%d bytes: got %q", len(text), got)
	}
	answers(t, text+"\n", "too long\n")
	answers(t, text+text, "too long\n")
}

// TestApart: nothing of one text is to be seen in another one.
func TestApart(t *testing.T) {
	first := map[string]string{}
	for name, pairs := range games() {
		first[name] = run.Run(textOf(pairs))
	}
	for range 3 {
		for name, pairs := range games() {
			if got := run.Run(textOf(pairs)); got != first[name] {
				t.Errorf("%s: got %q, and first %q", name, got, first[name])
			}
			answers(t, "units\nstep\nstop 0 1", "ErrState\nErrState\nErrState\n")
		}
	}
}

// TestGreatest: the greatest game that a text has room for: all units, all that may wait, and steps to its end.
func TestGreatest(t *testing.T) {
	text := "field 4 1000000 " + strings.TrimSuffix(strings.Repeat("999999999999/", 12), "/") + "\n"
	for i := range 40 {
		text += "place " + strconv.Itoa(i%4) + " " + strconv.Itoa(i%2) + " " + strconv.Itoa(i*3) + "\n"
	}
	for i := range 20 {
		text += "gather " + strconv.Itoa((2*i+1)%4) + " " + strconv.Itoa(2*i+2) + " 143\n"
	}
	for _, unit := range []int{1, 3, 5, 7} {
		text += strings.Repeat("train "+strconv.Itoa((unit-1)%4)+" "+strconv.Itoa(unit)+" 3\n", 4)
	}
	text += strings.Repeat("step\nseen 1\n", (3000-len(text))/12)
	answers(t, text, answersOf(text))
}
