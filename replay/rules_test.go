package replay_test

import (
	"fmt"
	"slices"
	"testing"

	"marchland/api"
	"marchland/replay"
)

// roomy is a list with something behind its length.
func roomy[T any](l []T, behind T) []T { return append(slices.Clone(l), behind, behind)[:len(l)] }

// whole is a list with what lies behind it, as text.
func whole[T any](l []T) string { return fmt.Sprintf("%+v", l[:len(l)+2]) }

func fill[T any](l []T, x T) {
	l = l[:cap(l)]
	for i := range l {
		l[i] = x
	}
}

var (
	noKind  = api.Kind{Name: "?", Life: -1}
	noUnit  = api.Unit{Id: -1}
	noJob   = api.Job{Unit: -1}
	noOrder = api.Order{Player: -1}
)

// roomyGame is a game all lists of which have something behind their length.
func roomyGame(g game) game {
	w := g.w
	w.Field.Ground, w.Field.Ore = roomy(w.Field.Ground, 77), roomy(w.Field.Ore, 77)
	w.Gold, w.Units, w.Queue = roomy(w.Gold, 77), roomy(w.Units, noUnit), roomy(w.Queue, noJob)
	turns := roomy(g.turns, []api.Order{noOrder})
	for i, l := range turns {
		turns[i] = roomy(l, noOrder)
	}
	return game{g.name, roomy(g.k, noKind), w, turns}
}

func wholeGame(g game) string {
	text := whole(g.k) + whole(g.w.Field.Ground) + whole(g.w.Field.Ore) + whole(g.w.Gold) + whole(g.w.Units) + whole(g.w.Queue) + whole(g.turns)
	for _, l := range g.turns {
		text += whole(l)
	}
	return text + fmt.Sprint(g.w)
}

// fillLists gives, for each list of a game, what writes into it and behind it.
func fillLists(g game) []func() {
	l := []func(){
		func() { fill(g.k, noKind) }, func() { fill(g.w.Field.Ground, 77) }, func() { fill(g.w.Field.Ore, 78) }, func() { fill(g.w.Gold, 79) },
		func() { fill(g.w.Units, noUnit) }, func() { fill(g.w.Queue, noJob) },
	}
	for _, asked := range g.turns {
		l = append(l, func() { fill(asked, noOrder) })
	}
	return append(l, func() { fill(g.turns, []api.Order{noOrder, noOrder}) })
}

// lists are all lists of a game as texts, in the order of fillLists; that of turns is told by how many it has.
func lists(g game) []string {
	l := []string{fmt.Sprint(g.k), fmt.Sprint(g.w.Field.Ground), fmt.Sprint(g.w.Field.Ore), fmt.Sprint(g.w.Gold), fmt.Sprint(g.w.Units), fmt.Sprint(g.w.Queue)}
	for _, asked := range g.turns {
		l = append(l, fmt.Sprint(asked))
	}
	return append(l, fmt.Sprint(len(g.turns)))
}

// sharesNothing writes into each list of a game, and holds that no other one is changed by it.
func sharesNothing(t *testing.T, g game) {
	t.Helper()
	for i, write := range fillLists(g)[:len(g.turns)+6] {
		before := lists(g)
		write()
		for j, after := range lists(g) {
			if i != j && after != before[j] {
				t.Errorf("%s: list %d shares memory with list %d", g.name, i, j)
			}
		}
	}
}

// calls are all calls that a game is handed to, with all that they answer, as text.
func calls(g game) string {
	text, err := replay.Export(g.k, g.w, g.turns)
	sums, ill := replay.Sums(g.k, g.w, g.turns)
	all := fmt.Sprintln(text, err, sums, ill)
	for n := -1; n <= len(g.turns)+1; n++ {
		w, err := replay.Seek(g.k, g.w, g.turns, n)
		all += fmt.Sprintln(w, err)
	}
	return all
}

// sound are some games that are right, and some that are refused.
func sound() []game {
	l := append(games()[:10], games()[14:19]...)
	l = append(l, drawn()[:10]...)
	for _, f := range faults() {
		k, w := wrong(f)
		l = append(l, game{f.name, k, w, askedTurns(0, 5)})
	}
	for _, asked := range wrongOrders() {
		l = append(l, game{"wrong orders", sorts(), few(), [][]api.Order{nil, asked, nil}})
	}
	return l
}

// TestGameStays: P2, P4: what is handed in stays as it was, and what lies behind it is neither read nor written, whether it is taken or refused.
func TestGameStays(t *testing.T) {
	for _, g := range sound() {
		want := calls(g)
		g = roomyGame(g)
		before := wholeGame(g)
		if got := calls(g); got != want {
			t.Errorf("%s: with something behind its lists: got %s, want %s", g.name, got, want)
		}
		if after := wholeGame(g); after != before {
			t.Errorf("%s: it was %s, and became %s", g.name, before, after)
		}
	}
}

// TestSeekIsFresh: P2, of any turn, of 0 too, what is answered shares no memory with what was handed in, with another answer, or list by list.
func TestSeekIsFresh(t *testing.T) {
	g := roomyGame(game{"played", sorts(), few(), played()})
	before := wholeGame(g)
	for n := range len(g.turns) + 1 {
		w, err := replay.Seek(g.k, g.w, g.turns, n)
		does(t, err)
		other, err := replay.Seek(g.k, g.w, g.turns, n)
		does(t, err)
		want := fmt.Sprint(other)
		sharesNothing(t, game{name: fmt.Sprint("turn ", n), w: w})
		if fmt.Sprint(other) != want || wholeGame(g) != before {
			t.Errorf("turn %d: what is answered shares memory", n)
		}
		for _, write := range fillLists(game{w: other}) {
			write()
		}
		if wholeGame(g) != before {
			t.Errorf("turn %d: what is answered shares memory with what was handed in", n)
		}
	}
	w, err := replay.Seek(g.k, g.w, g.turns, 3)
	does(t, err)
	want := fmt.Sprint(w)
	for _, write := range fillLists(g) {
		write()
	}
	if fmt.Sprint(w) != want {
		t.Error("what was handed in is kept")
	}
}

// TestSumsAreFresh: P2, what is written into sums does not change others.
func TestSumsAreFresh(t *testing.T) {
	a, err := replay.Sums(sorts(), few(), played())
	does(t, err)
	want := slices.Clone(a)
	fill(a, -1)
	b, err := replay.Sums(sorts(), few(), played())
	if !slices.Equal(b, want) || err != nil {
		t.Errorf("got %v, %v; want %v", b, err, want)
	}
}

// TestImportIsFresh: P2, no two lists of what Import answers share memory, nor do two answers.
func TestImportIsFresh(t *testing.T) {
	for _, g := range append(games()[:10], small()) {
		text := g.text()
		k, w, turns, err := replay.Import(text)
		does(t, err)
		otherK, otherW, otherTurns, err := replay.Import(text)
		does(t, err)
		sharesNothing(t, game{g.name, k, w, turns})
		if len(turns) > 0 {
			fill(turns, []api.Order{noOrder})
		}
		if told(otherK, otherW, otherTurns) != told(g.k, g.w, g.turns) {
			t.Errorf("%s: two answers share memory", g.name)
		}
		reads(t, g.name, text, g)
	}
}

// TestOneListForMany: P2, one list that stands for many turns is taken for each of them.
func TestOneListForMany(t *testing.T) {
	l := asked(3)
	g := game{"one list", sorts(), few(), [][]api.Order{l, l[:1], l, l[1:2]}}
	k, w, turns, err := replay.Import(g.text())
	does(t, err)
	sharesNothing(t, game{g.name, k, w, turns})
	if want := calls(game{"", sorts(), few(), [][]api.Order{asked(3), asked(3)[:1], asked(3), asked(3)[1:2]}}); calls(g) != want {
		t.Errorf("got %s, want %s", calls(g), want)
	}
}
