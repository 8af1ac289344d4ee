package replay_test

import (
	"encoding/hex"
	"fmt"
	"math/rand"
	"regexp"
	"strings"
	"testing"

	"marchland/api"
	"marchland/kinds"
	"marchland/orders"
	"marchland/plain"
	"marchland/replay"
	"marchland/world"
)

// reads holds what Import tells of a text against what it must, and that Export writes the text again.
func reads(t *testing.T, name, text string, g game) {
	t.Helper()
	k, w, turns, err := replay.Import(text)
	if got, want := told(k, w, turns), told(g.k, g.w, g.turns); got != want || err != nil {
		t.Errorf("%s: got %s, %v; want %s", name, got, err, want)
	}
	if again, err := replay.Export(k, w, turns); again != text || err != nil {
		t.Errorf("%s: Export writes %q, %v; and not %q", name, again, err, text)
	}
}

// noText holds that a text is none, and that nothing is told beside it.
func noText(t *testing.T, name, text string) {
	t.Helper()
	if k, w, turns, err := replay.Import(text); told(k, w, turns) != nothing || plain.Told(err) != api.ErrSyntax {
		t.Errorf("%s: %q: got %s, %v", name, text, told(k, w, turns), err)
	}
}

// TestImport: X1, of what Export writes the kinds, the world and the orders of each turn as they were.
func TestImport(t *testing.T) {
	reads(t, "small", smallText, small())
	for _, g := range games() {
		reads(t, g.name, g.text(), g)
		text, err := replay.Export(g.k, g.w, g.turns)
		does(t, err)
		reads(t, g.name, text, g)
	}
}

// TestImportEach: X1, each number and mark of a kind, a unit and a job for itself.
func TestImportEach(t *testing.T) {
	for i := range 10 {
		k := []api.Kind{{Name: "a", Life: 1}, {Name: "zzzzzzzz", Life: 1}}
		one := &k[i%2]
		*[]*int{&one.Life, &one.Hit, &one.Range, &one.Sight, &one.Speed, &one.Price, &one.Turns, &one.Carry, new(int), new(int)}[i] = 3
		one.Flies, one.Trains = i == 8, i == 9
		g := game{"a kind", k, bare(), nil}
		reads(t, g.name, g.text(), g)
	}
	for i := range 7 {
		g := small()
		u := &g.w.Units[1]
		g.k[1].Carry = 9
		*[]*int{&g.w.Turn, &g.w.Next, &u.Id, &u.Life, &u.Load, &u.Goal, &g.w.Queue[0].Left}[i] = []int{5, 77, 6, 3, 7, 1, 999}[i]
		reads(t, "a world", g.text(), g)
	}
}

// TestImportNone: X1, texts that are none: each has one fault.
func TestImportNone(t *testing.T) {
	many := game{"", nil, bare(), make([][]api.Order, api.MaxTurns)}.text()
	full := game{"", nil, bare(), [][]api.Order{most()}}.text()
	eight := ""
	for i := range 8 {
		eight += string(rune('a'+i)) + " 1 0 0 0 0 0 0 0 - -\n"
	}
	least := "world 000202020200020002000000\n"
	reads(t, "eight kinds", eight+least, game{k: eightKinds(), w: bare()})
	overWater := strings.Replace(smallText, "06000600", "06000400", 1)
	reads(t, "over water", overWater, meant(t, overWater))
	for _, c := range []struct{ name, text string }{
		{"empty", ""},
		{"a line's end", "\n"},
		{"a blank", " "},
		{"no world", smallKinds},
		{"no world, and turns", smallKinds + smallTurns},
		{"turns alone", smallTurns},
		{"a world without a digit", "world \n"},
		{"a world without a blank", strings.Replace(smallText, "world ", "world", 1)},
		{"a world with two blanks", strings.Replace(smallText, "world ", "world  ", 1)},
		{"a world with a blank behind", strings.Replace(smallText, "8001\n", "8001 \n", 1)},
		{"a world with a blank in it", strings.Replace(smallText, "0c12", "0c 12", 1)},
		{"a blank ahead of the world", strings.Replace(smallText, "world", " world", 1)},
		{"another word", strings.Replace(smallText, "world", "World", 1)},
		{"a longer word", strings.Replace(smallText, "world", "worlds", 1)},
		{"a shorter word", strings.Replace(smallText, "world", "worl", 1)},
		{"the world twice", smallKinds + smallWorld + smallWorld + smallTurns},
		{"the world twice, at its end", smallText + smallWorld},
		{"the world behind its turns", smallKinds + smallTurns + smallWorld},
		{"the world ahead of its kinds", smallWorld + smallKinds + smallTurns},
		{"the world between its kinds", "base 50 0 0 4 0 50 5 0 - t\n" + smallWorld + "bird 8 3 2 5 3 25 1000 0 f -\n" + smallTurns},
		{"kinds behind all", smallWorld + smallTurns + smallKinds},
		{"kinds twice", smallKinds + smallKinds + smallWorld + smallTurns},
		{"the text twice", smallText + smallText},
		{"an empty line ahead", "\n" + smallText},
		{"an empty line behind", smallText + "\n"},
		{"an empty line behind the kinds", smallKinds + "\n" + smallWorld + smallTurns},
		{"an empty line behind the world", smallKinds + smallWorld + "\n" + smallTurns},
		{"an order ahead of all turns", smallKinds + smallWorld + "1 8 march 2\n" + smallTurns},
		{"orders, and no turn", smallKinds + smallWorld + "1 8 march 2\n"},
		{"a turn ahead of the world", smallKinds + "turn\n" + smallWorld + smallTurns},
		{"a turn ahead of all", "turn\n" + smallText},
		{"a turn with a blank behind", smallText + "turn \n"},
		{"a turn with a blank ahead", smallText + " turn\n"},
		{"a turn with a number", smallText + "turn 4\n"},
		{"a turn with a great letter", smallText + "Turn\n"},
		{"a turn behind an order, in its line", smallText + "0 1 stop turn\n"},
		{"a turn behind a word, in its line", smallText + "xturn\n"},
		{"a turn behind the world, in its line", smallKinds + strings.TrimSuffix(smallWorld, "\n") + smallTurns},
		{"a turn that does not end", smallText + "turn"},
		{"an order that does not end", strings.TrimSuffix(smallText, "\n")},
		{"a world that does not end", strings.TrimSuffix(smallKinds+smallWorld, "\n")},
		{"a least world that does not end", strings.TrimSuffix(least, "\n")},
		{"line ends of two bytes", strings.ReplaceAll(smallText, "\n", "\r\n")},
		{"one line's end of two bytes, at the end", strings.TrimSuffix(smallText, "\n") + "\r\n"},
		{"byte 13 for byte 10", strings.ReplaceAll(smallText, "\n", "\r")},
		{"tabs for blanks", strings.ReplaceAll(smallText, " ", "\t")},
		{"a mark of UTF-8 ahead", "\ufeff" + smallText},
		{"no UTF-8 ahead", "\xff" + smallText},
		{"no UTF-8 behind", smallText + "\xff"},
		{"byte 0 behind", smallText + "\x00"},
		{"no UTF-8 in a name", strings.Replace(smallText, "bird", "bi\xffd", 1)},
		{"a letter of two bytes in a name", strings.Replace(smallText, "bird", "bïrd", 1)},
		{"great letters", strings.ToUpper(smallText)},
		{"digits A to F", smallKinds + "world " + strings.ToUpper(smallWorld[6:]) + smallTurns},
		{"one digit C", strings.Replace(smallText, "0c12", "0C12", 1)},
		{"one digit g", strings.Replace(smallText, "0c12", "0g12", 1)},
		{"a digit too many", strings.Replace(smallText, "8001\n", "80010\n", 1)},
		{"a digit too few", strings.Replace(smallText, "8001\n", "800\n", 1)},
		{"an odd digit ahead", strings.Replace(smallText, "world 0", "world 00", 1)},
		{"0x ahead of the digits", strings.Replace(smallText, "world ", "world 0x", 1)},
		{"a sign among the digits", strings.Replace(smallText, "0c12", "+c12", 1)},
		{"a line under among the digits", strings.Replace(smallText, "0c12", "0_12", 1)},
		{"a byte too many of the world", strings.Replace(smallText, "8001\n", "800100\n", 1)},
		{"a byte too few of the world", strings.Replace(smallText, "8001\n", "80\n", 1)},
		{"a number of the world with a needless byte", strings.Replace(smallText, "world 0c", "world 8c00", 1)},
		{"a list of the world that is too long", "world 0002020292030002000000\n"},
		{"the world's bytes as other digits", smallKinds + "world 12,18,6,2\n"},
		{"a ninth kind", eight + "z 1 0 0 0 0 0 0 0 - -\n" + least},
		{"a kind twice", strings.Replace(smallText, "bird 8", "base 8", 1)},
		{"a needless 0 of a kind", strings.Replace(smallText, "bird 8", "bird 08", 1)},
		{"a plus of a kind", strings.Replace(smallText, "bird 8", "bird +8", 1)},
		{"a minus 0 of a kind", strings.Replace(smallText, " 0 f", " -0 f", 1)},
		{"a kind with two blanks", strings.Replace(smallText, "bird 8", "bird  8", 1)},
		{"a kind with a blank ahead", strings.Replace(smallText, "bird 8", " bird 8", 1)},
		{"a kind with a blank behind", strings.Replace(smallText, "f -\n", "f - \n", 1)},
		{"a kind with a great letter", strings.Replace(smallText, "f -\n", "F -\n", 1)},
		{"a kind of too great a number", strings.Replace(smallText, "1000", "1001", 1)},
		{"a kind without Life", strings.Replace(smallText, "bird 8", "bird 0", 1)},
		{"a kind with too little Life for its unit", strings.Replace(smallText, "bird 8", "bird 6", 1)},
		{"a kind that does not get where its unit is", strings.Replace(overWater, "f -\n", "- -\n", 1)},
		{"one kind wanting, of which there is a unit", strings.Replace(smallText, "bird 8 3 2 5 3 25 1000 0 f -\n", "", 1)},
		{"a kind that does not train, at which there is a job", strings.Replace(smallText, "- t\n", "- -\n", 1)},
		{"a needless 0 of an order", strings.Replace(smallText, "8 march 2", "8 march 02", 1)},
		{"a plus of an order", strings.Replace(smallText, "8 march 2", "8 march +2", 1)},
		{"a minus 0 of an order", strings.Replace(smallText, "gather 0", "gather -0", 1)},
		{"an order with two blanks", strings.Replace(smallText, "8 march 2", "8 march  2", 1)},
		{"an order with a blank ahead", strings.Replace(smallText, "1 8 march 2", " 1 8 march 2", 1)},
		{"an order with a blank behind", strings.Replace(smallText, "8 march 2", "8 march 2 ", 1)},
		{"a stop with a number", strings.Replace(smallText, "stop", "stop 0", 1)},
		{"a march without a number", strings.Replace(smallText, "8 march 2", "8 march", 1)},
		{"an order of another word", strings.Replace(smallText, "8 march 2", "8 go 2", 1)},
		{"an order of a player that is none", strings.Replace(smallText, "3 1000000 stop", "4 1000000 stop", 1)},
		{"an order below 0", strings.Replace(smallText, "3 1000000 stop", "-1 1000000 stop", 1)},
		{"an order beyond MaxNumber", strings.Replace(smallText, "1000000", "1000001", 1)},
		{"an order far beyond MaxNumber", strings.Replace(smallText, "1000000", "18446744073709551617", 1)},
		{"61 orders", full + "0 1 stop\n"},
		{"61 orders, and a turn", full + "0 1 stop\nturn\n"},
		{"one turn more than the most", many + "turn\n"},
		{"one turn more than the most, with an order", many + "turn\n0 1 stop\n"},
		{"twice as many turns", many + strings.Repeat("turn\n", api.MaxTurns)},
		{"far too many turns", least + strings.Repeat("turn\n", 1<<18)},
		{"far too many kinds", strings.Repeat("world 1 0 0 0 0 0 0 0 - -\n", 1<<16) + least},
		{"far too many digits", "world " + strings.Repeat("00", 1<<20) + "\n"},
		{"far too many blanks", strings.Repeat(" ", 1<<20)},
		{"far too many lines", strings.Repeat("\n", 1<<20) + smallText},
	} {
		if c.text == smallText {
			t.Fatalf("%s: the text is as it was", c.name)
		}
		noText(t, c.name, c.text)
	}
}

func eightKinds() (l []api.Kind) {
	for i := range 8 {
		l = append(l, api.Kind{Name: string(rune('a' + i)), Life: 1})
	}
	return l
}

// TestImportWrongWorld: X1, a world, or kinds, that chapter 7's Check refuses: each of its errors by itself.
func TestImportWrongWorld(t *testing.T) {
	for _, f := range faults() {
		k, w := wrong(f)
		text := "world " + hex.EncodeToString(world.Encode(w)) + "\n"
		noText(t, f.name, printed(k)+text+"turn\n")
		noText(t, f.name, printed(k)+text)
	}
}

// printed are kinds as they would be written, if they were right.
func printed(l []api.Kind) (text string) {
	for _, k := range l {
		text += fmt.Sprintln(k.Name, k.Life, k.Hit, k.Range, k.Sight, k.Speed, k.Price, k.Turns, k.Carry, mark(k.Flies, "f"), mark(k.Trains, "t"))
	}
	return text
}

func mark(is bool, word string) string {
	if is {
		return word
	}
	return "-"
}

// TestImportWrongOrders: X1, orders that chapter 6's Check refuses: each error by itself, at the first turn and at a later one.
func TestImportWrongOrders(t *testing.T) {
	if g := small(); printed(g.k) != smallKinds {
		t.Fatalf("kinds are printed as %q", printed(g.k))
	}
	for i, l := range wrongOrders() {
		text := ""
		for _, o := range l {
			words := fmt.Sprintln(o.Player, o.Unit, what(o.What), o.Arg)
			if o.What == api.DoStop && o.Arg == 0 {
				words = fmt.Sprintln(o.Player, o.Unit, "stop")
			}
			text += words
		}
		noText(t, fmt.Sprint("orders ", i), smallKinds+smallWorld+"turn\n"+text)
		noText(t, fmt.Sprint("orders ", i), smallText+"turn\n"+text+"turn\n")
	}
}

func what(n int) string {
	for i, word := range []string{"stop", "march", "gather", "train"} {
		if i == n {
			return word
		}
	}
	return "none"
}

// ordinary are some texts; of one the kinds are named as the words of a text.
func ordinary() []string {
	l := []string{smallText}
	for _, g := range games() {
		if g.name == "what is played" || g.name == "kinds named as the text's words" {
			l = append(l, g.text())
		}
	}
	return l
}

// TestImportCut: X1, a text that is cut off at each byte is none; but where a line ends, from the world's on, it is one of fewer turns, or orders.
func TestImportCut(t *testing.T) {
	for _, text := range ordinary() {
		least := strings.Index(text, "turn\n")
		whole := 0
		for n := range len(text) {
			if n >= least && text[n-1] == '\n' {
				whole++
				reads(t, "cut", text[:n], meant(t, text[:n]))
				continue
			}
			noText(t, "cut", text[:n])
		}
		if want := strings.Count(text[least:], "\n"); whole != want {
			t.Errorf("%d lines are asked, and not %d", whole, want)
		}
	}
}

// TestImportLines: X1, a line twice, or wanting, or two that have changed places.
func TestImportLines(t *testing.T) {
	for _, text := range ordinary() {
		lines := strings.SplitAfter(text, "\n")
		lines = lines[:len(lines)-1]
		for i := range lines {
			asMeant(t, "twice", strings.Join(lines[:i+1], "")+strings.Join(lines[i:], ""))
			asMeant(t, "wanting", strings.Join(lines[:i], "")+strings.Join(lines[i+1:], ""))
			for j := range i {
				lines[i], lines[j] = lines[j], lines[i]
				asMeant(t, "changed places", strings.Join(lines, ""))
				lines[i], lines[j] = lines[j], lines[i]
			}
		}
	}
	lines := strings.SplitAfter(smallText, "\n")
	for i := range 3 {
		noText(t, "twice", strings.Join(lines[:i+1], "")+strings.Join(lines[i:], ""))
		noText(t, "wanting", strings.Join(lines[:i], "")+strings.Join(lines[i+1:], ""))
	}
}

// TestImportBytes: X1, a byte more, or less, or another one, at each place.
func TestImportBytes(t *testing.T) {
	right := 0
	for n := range len(smallText) + 1 {
		for c := range 256 {
			one := string([]byte{byte(c)})
			right += asMeant(t, "a byte more", smallText[:n]+one+smallText[n:])
			if n < len(smallText) {
				right += asMeant(t, "another byte", smallText[:n]+one+smallText[n+1:])
			}
		}
		if n < len(smallText) {
			right += asMeant(t, "a byte less", smallText[:n]+smallText[n+1:])
		}
	}
	if right < 1000 {
		t.Errorf("%d texts are right", right)
	}
	for c := range 256 {
		noText(t, "a byte more, behind all", smallText+string([]byte{byte(c)}))
		noText(t, "a byte more, behind a world", smallKinds+smallWorld+string([]byte{byte(c)}))
		noText(t, "a byte alone", string([]byte{byte(c)}))
	}
}

// TestImportDrawn: X1, texts of right games in which some has been changed, put in, or left out.
func TestImportDrawn(t *testing.T) {
	r := rand.New(rand.NewSource(18))
	pieces := []string{"turn\n", "world ", "\n", " ", "0", "00", "1", "f", "-", "0 1 stop\n", "1 8 march 2\n", "a 1 0 0 0 0 0 0 0 - -\n", "world 1 0 0 0 0 0 0 0 - -\n", smallWorld, "\r", "\xff", "A"}
	all := append(games()[:10], games()[14:]...) // but for the longest ones
	right := 0
	for range 20000 {
		text := all[r.Intn(len(all))].text()
		for range 1 + r.Intn(3) {
			a := r.Intn(len(text) + 1)
			b := a + r.Intn(min(len(text)-a, 12)+1)
			if r.Intn(2) == 0 {
				b = a
			}
			text = text[:a] + pieces[r.Intn(len(pieces))] + text[b:]
		}
		right += asMeant(t, "drawn", text)
	}
	if right < 100 {
		t.Errorf("%d texts are right", right)
	}
}

// asMeant holds what Import tells of a text against what it means, and tells how often it means something.
func asMeant(t *testing.T, name, text string) int {
	t.Helper()
	g, ok := mean(text)
	if !ok {
		noText(t, name, text)
		return 0
	}
	reads(t, name, text, g)
	return 1
}

func meant(t *testing.T, text string) game {
	t.Helper()
	g, ok := mean(text)
	if !ok {
		t.Fatalf("%q means nothing", text)
	}
	return g
}

var (
	form = regexp.MustCompile(`\A((?:[^ \n]+(?: [^ \n]+){10}\n)*)world ((?:[0-9a-f]{2})+)\n((?:turn\n(?:[0-9][^\n]*\n)*)*)\z`)
	each = regexp.MustCompile(`turn\n((?:[0-9][^\n]*\n)*)`)
)

// mean tells what a text means, by a form of it, and by what the chapters ahead read and write.
func mean(text string) (g game, ok bool) {
	m := form.FindStringSubmatch(text)
	if m == nil {
		return game{}, false
	}
	k, _, err := kinds.Parse(m[1])
	b, bad := hex.DecodeString(m[2])
	w, long, ill := world.Decode(b)
	if err != nil || bad != nil || ill != nil || long != len(b) || world.Check(k, w) != nil {
		return game{}, false
	}
	g = game{"meant", k, w, nil}
	for _, m := range each.FindAllStringSubmatch(m[3], -1) {
		l, _, err := orders.Parse(m[1])
		if err != nil {
			return game{}, false
		}
		g.turns = append(g.turns, l)
	}
	return g, len(g.turns) <= api.MaxTurns
}
