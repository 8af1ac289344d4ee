package run_test

import (
	"strconv"
	"strings"
	"testing"
)

// wrongOrders are lines that chapter 6's Check refuses, by themselves and behind others.
func wrongOrders() []string {
	return []string{
		"stop -1 1", "stop 4 1", "stop 999999999 1", "stop -999999999 1", "stop 0 -1", "stop 0 1000001", "stop 0 -999999999",
		"march -1 1 0", "march 4 1 0", "march 0 -1 0", "march 0 1000001 0", "march 0 1 -1", "march 0 1 1000001", "march 0 1 999999999",
		"gather -1 1 0", "gather 4 1 0", "gather 0 -1 0", "gather 0 1000001 0", "gather 0 1 -1", "gather 0 1 1000001", "gather 0 1 -999999999",
		"train -1 1 0", "train 4 1 0", "train 0 -1 0", "train 0 1000001 0", "train 0 1 -1", "train 0 1 1000001", "train -999999999 -1 -1",
	}
}

// rightOrders are those that it takes, whatever stands in the world.
func rightOrders() []string {
	return []string{
		"stop 0 0", "stop 0 1", "stop 3 1000000", "stop 2 77", "march 0 0 0", "march 3 1000000 1000000", "march 1 1 7", "gather 0 0 0",
		"gather 3 1000000 1000000", "gather 0 1 999999", "train 0 0 0", "train 3 1000000 1000000", "train 0 2 9", "train 2 2 2",
	}
}

// TestOrdersRefused: of one that waits nothing comes but what step tells; what was refused does not wait.
func TestOrdersRefused(t *testing.T) {
	for _, line := range wrongOrders() {
		plays(t, "field 1 100 ..", "ok", "place 0 0 0", "ok", line, "ErrRange", line, "ErrRange", "step", "0", "gold", "100")
		plays(t,
			"field 1 100 ..", "ok", "place 0 0 0", "ok", "train 0 1 1", "ok", line, "ErrRange", "train 0 1 1", "ok", line, "ErrRange",
			"step", "0", "gold", "80", "step", "1", "gold", "80")
	}
}

// TestOrdersTaken: there need be no such unit, nor such a player in this world, nor such a cell or kind.
func TestOrdersTaken(t *testing.T) {
	for _, line := range rightOrders() {
		plays(t, "field 1 0 ..", "ok", line, "ok", line, "ok", "units", "-", "step", "0", "units", "-", "gold", "0")
	}
	all := []string{"field 1 0 ..", "ok"}
	for _, line := range rightOrders() {
		all = append(all, line, "ok")
	}
	plays(t, append(all, "step", "0", "step", "0")...)
}

// TestOrdersFull: as many wait as may be; the next one is ErrFull, whatever it is, and does not wait.
func TestOrdersFull(t *testing.T) {
	const ahead, wait, full = "field 1 30 ..\nplace 0 0 0\n", "stop 0 1\n", 60
	for _, line := range append(wrongOrders(), rightOrders()...) {
		text := ahead + strings.Repeat(wait, full) + line + "\n" + line + "\nstep\ngold\n"
		answers(t, text, strings.Repeat("ok\n", full+2)+"ErrFull\nErrFull\n0\n30\n")
	}
	text := ahead + strings.Repeat(wait, full) + "train 0 1 1\nstep\ngold\ntrain 0 1 1\nstep\ngold\n"
	answers(t, text, strings.Repeat("ok\n", full+2)+"ErrFull\n0\n30\nok\n0\n20\n")
	// What was refused does not count, and the last of sixty does.
	text = ahead + strings.Repeat("stop 0 -1\n", 100) + strings.Repeat(wait, full-1) + "train 0 1 1\nstop 0 1\nstop 0 -1\nstep\ngold\n"
	answers(t, text, "ok\nok\n"+strings.Repeat("ErrRange\n", 100)+strings.Repeat("ok\n", full)+"ErrFull\nErrFull\n0\n20\n")
	// Behind a step as many may wait again.
	round := strings.Repeat(wait, full) + wait + "step\n"
	answers(t, ahead+strings.Repeat(round, 4), "ok\nok\n"+strings.Repeat(strings.Repeat("ok\n", full)+"ErrFull\n0\n", 4))
}

// TestOrdersInOrder: they are asked in the order in which they came, all of train, and of others each unit's last one.
func TestOrdersInOrder(t *testing.T) {
	ahead := []string{"field 2 35 .....", "ok", "place 0 0 0", "ok", "place 0 1 1", "ok", "place 1 3 4", "ok"}
	with := func(more ...string) { plays(t, append(append([]string(nil), ahead...), more...)...) }
	with("march 0 2 3", "ok", "stop 0 2", "ok", "step", "0", "units", "1,0,0,0,50,0 2,0,1,1,10,0 3,1,3,4,8,0")
	with("stop 0 2", "ok", "march 0 2 2", "ok", "step", "2", "units", "1,0,0,0,50,0 2,0,1,2,7,0 3,1,3,4,8,0") // a cell, and the bird strikes
	with("stop 0 2", "ok", "step", "0")
	with("train 0 1 2", "ok", "train 0 1 1", "ok", "train 0 1 1", "ok", "step", "0", "gold", "5 35")              // the last one is refused: 35 - 20 - 10
	with("train 0 1 1", "ok", "train 0 1 1", "ok", "train 0 1 2", "ok", "step", "0", "gold", "15 35")             // and here too: 35 - 10 - 10
	with("march 1 2 3", "ok", "march 0 3 3", "ok", "step", "0", "units", "1,0,0,0,50,0 2,0,1,1,10,0 3,1,3,4,8,0") // none is its player's
	with("march 1 3 2", "ok", "train 0 1 1", "ok", "step", "3", "gold", "25 35", "units", "1,0,0,0,50,0 2,0,1,1,7,0 3,1,3,2,8,0")
	with("gather 0 2 3", "ok", "step", "0", "march 0 2 9", "ok", "step", "0", "march 0 1 1", "ok", "step", "0") // no ore, no cell, one without Speed
}

// TestOrdersOnce: an order is given in one step alone.
func TestOrdersOnce(t *testing.T) {
	plays(t,
		"field 1 100 ...9", "ok", "place 0 0 0", "ok", "train 0 1 1", "ok",
		"step", "0", "gold", "90", "step", "1", "gold", "90", "step", "0", "gold", "90", "step", "0", "gold", "90",
		"march 0 2 2", "ok", "step", "1", "march 0 2 1", "ok", "step", "1", "step", "0", "units", "1,0,0,0,50,0 2,0,1,1,10,0")
}

// TestStep: without orders Turn alone is another one, twice in a row too.
func TestStep(t *testing.T) {
	numbers := []int{0, 1, 1, 1, 1, 0, 1, 0, 1, 0, 0, 0}
	pairs := []string{"field 1 0 .", "ok"}
	for turn := range 70 {
		numbers[0] = turn
		pairs = append(pairs, "sum", strconv.Itoa(sumOf(numbers)), "step", "0")
	}
	plays(t, pairs...)
	numbers[0] = 2
	plays(t, "field 1 0 .", "ok", "step", "0", "step", "0", "sum", strconv.Itoa(sumOf(numbers)))
}

// TestUnits: none, one, several, and of many digits.
func TestUnits(t *testing.T) {
	plays(t, "field 2 0 .....9", "ok", "units", "-", "place 1 2 3", "ok", "units", "1,1,2,3,20,0",
		"place 0 1 5", "ok", "units", "1,1,2,3,20,0 2,0,1,5,10,0", "gather 0 2 5", "ok", "step", "1", "units", "1,1,2,3,20,0 2,0,1,5,10,10",
		"place 0 3 0", "ok", "units", "1,1,2,3,20,0 2,0,1,5,10,10 3,0,3,0,8,0")
	text, want := "field 4 0 "+strings.TrimSuffix(strings.Repeat("............/", 12), "/")+"\n", ""
	for i := range 12 {
		text += "place 3 0 " + strconv.Itoa(143-i) + "\n"
		want += " " + strconv.Itoa(i+1) + ",3,0," + strconv.Itoa(143-i) + ",50,0"
	}
	answers(t, text+"units", strings.Repeat("ok\n", 13)+want[1:]+"\n")
}

// TestGold: of one player and of four, and when it is another one for each.
func TestGold(t *testing.T) {
	plays(t, "field 1 7 .", "ok", "gold", "7")
	plays(t, "field 4 0 .", "ok", "gold", "0 0 0 0")
	plays(t, "field 4 90 ....", "ok", "gold", "90 90 90 90", "place 1 0 0", "ok", "place 3 0 3", "ok",
		"train 1 1 0", "ok", "train 3 2 1", "ok", "train 3 2 2", "ok", "gold", "90 90 90 90", "step", "0", "gold", "90 40 90 60")
}

// TestSum: of a world with units and jobs, worked out of its numbers.
func TestSum(t *testing.T) {
	plays(t,
		"field 2 100 .../^9#", "ok", "place 0 0 0", "ok", "place 1 1 3", "ok", "train 0 1 2", "ok", "gather 1 2 4", "ok", "step", "2",
		"sum", strconv.Itoa(sumOf([]int{1, 3, 3, 2, 6, 0, 0, 0, 3, 0, 1, 6, 0, 0, 0, 0, 80, 0, 2, 80, 100,
			2, 1, 0, 0, 0, 50, 0, 0, 0, 2, 1, 1, 4, 10, 10, 2, 4, 1, 0, 1, 2, 2})),
		"sum", strconv.Itoa(sumOf([]int{1, 3, 3, 2, 6, 0, 0, 0, 3, 0, 1, 6, 0, 0, 0, 0, 80, 0, 2, 80, 100,
			2, 1, 0, 0, 0, 50, 0, 0, 0, 2, 1, 1, 4, 10, 10, 2, 4, 1, 0, 1, 2, 2})))
}

// TestSeen: how many cells each player sees, counted by hand; and players that are none.
func TestSeen(t *testing.T) {
	// From a corner, Sight 3: three rows of four cells, and one of three, since 3 and 3 are 4 apart.
	plays(t, "field 1 0 ...../...../...../...../.....", "ok", "seen 0", "0", "place 0 1 0", "ok", "seen 0", "15")
	// Forest and Rock are seen, and nothing behind them; but by who flies.
	plays(t, "field 4 0 .^..#.", "ok", "seen 0", "0", "place 0 1 0", "ok", "seen 0", "2", "place 1 3 5", "ok", "seen 1", "6", "place 2 0 3", "ok", "seen 2", "4",
		"seen 3", "0", "seen 0", "2", "place 0 2 5", "ErrState", "place 0 1 2", "ok", "seen 0", "5",
		"seen 4", "ErrRange", "seen -1", "ErrRange", "seen 999999999", "ErrRange", "seen -999999999", "ErrRange")
	plays(t, "field 1 0 .", "ok", "seen 1", "ErrRange", "seen 0", "0", "place 0 0 0", "ok", "seen 0", "1")
	plays(t, "field 2 0 .", "ok", "seen 1", "0", "seen 2", "ErrRange")
}

// TestFar: rounded down, to the bounds of its numbers, and beyond them in each place; in a world and without one.
func TestFar(t *testing.T) {
	for _, c := range []struct{ line, want string }{
		{"far 0 0 0 0", "0"}, {"far 0 0 3 4", "5"}, {"far 3 4 0 0", "5"}, {"far 1 2 4 6", "5"}, {"far -1 -2 2 2", "5"}, {"far 0 3 4 0", "5"},
		{"far 0 0 1 1", "1"}, {"far 0 0 2 2", "2"}, {"far 5 5 5 6", "1"}, {"far 7 0 0 0", "7"}, {"far 0 -7 0 0", "7"}, {"far 4 3 1 8", "5"},
		{"far -1000000 -1000000 1000000 1000000", "2828427"}, {"far 1000000 0 -1000000 0", "2000000"},
		{"far 1000001 0 0 0", "ErrRange"}, {"far 0 1000001 0 0", "ErrRange"}, {"far 0 0 1000001 0", "ErrRange"}, {"far 0 0 0 1000001", "ErrRange"},
		{"far -1000001 0 0 0", "ErrRange"}, {"far 0 -1000001 0 0", "ErrRange"}, {"far 0 0 -1000001 0", "ErrRange"}, {"far 0 0 0 -1000001", "ErrRange"},
		{"far 999999999 999999999 999999999 999999999", "ErrRange"}, {"far -999999999 0 0 999999999", "ErrRange"},
	} {
		plays(t, c.line, c.want, c.line, c.want, "field 1 0 .", "ok", c.line, c.want)
	}
}

// drawn is what D1 and D2 draw of a new Dice, of numbers without a sign.
func drawn(seed, n int) int {
	x, most := uint64(seed), uint64(1)<<62/uint64(n)*uint64(n)
	for {
		x += 0x9E3779B97F4A7C15
		z := (x ^ x>>30) * 0xBF58476D1CE4E5B9
		z = (z ^ z>>27) * 0x94D049BB133111EB
		z = (z ^ z>>31) / 4
		if z < most {
			return int(z % uint64(n))
		}
	}
}

// TestDice: each line asks a new one, so that of one seed the same comes whatever was asked between.
func TestDice(t *testing.T) {
	plays(t, "dice 7 6", "3", "dice 0 6", "1", "dice 7 6", "3", "dice 7 100", "21", "dice 7 6", "3", "dice -1 6", "2", "dice -1 100", "84", "dice -1 6", "2",
		"dice 0 1000000", "651883", "dice 999999999 1000000", "881602", "dice -999999999 1000000", "848053", "field 1 0 .", "ok", "dice 7 6", "3", "dice 1 6", "4")
	for _, seed := range []int{0, 1, 2, 3, 7, 42, 1000000, 999999999, -1, -2, -7, -1000001, -999999999} {
		for _, n := range []int{1, 2, 3, 6, 7, 100, 65536, 999999, 1000000} {
			line, want := "dice "+strconv.Itoa(seed)+" "+strconv.Itoa(n), strconv.Itoa(drawn(seed, n))
			plays(t, line, want, line, want)
		}
		for _, n := range []string{"0", "-1", "-6", "1000001", "999999999", "-999999999"} {
			plays(t, "dice "+strconv.Itoa(seed)+" "+n, "ErrRange", "dice 7 6", "3")
		}
	}
}
