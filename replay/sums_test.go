package replay_test

import (
	"fmt"
	"math/rand"
	"slices"
	"testing"

	"marchland/api"
	"marchland/replay"
	"marchland/turn"
	"marchland/world"
)

// worlds are those of a game that is played step by step: at first, and behind each turn.
func worlds(t *testing.T, g game) []api.World {
	t.Helper()
	l := []api.World{g.w}
	for _, asked := range g.turns {
		after, _, err := turn.Step(g.k, l[len(l)-1], asked)
		does(t, err)
		l = append(l, after)
	}
	return l
}

// playable are games that Play does not refuse.
func playable() (l []game) {
	for _, g := range games() {
		if g.w.Turn < api.MaxNumber || len(g.turns) == 0 {
			l = append(l, g)
		}
	}
	return append(l, drawn()...)
}

// drawn are games of few in which units are asked that are there.
func drawn() (l []game) {
	r := rand.New(rand.NewSource(18))
	for range 60 {
		g := game{"drawn", sorts(), few(), nil}
		for range r.Intn(12) {
			var asked []api.Order
			for range r.Intn(5) {
				o := api.Order{Player: r.Intn(3), Unit: 1 + r.Intn(10), What: r.Intn(4)}
				if o.What != api.DoStop {
					o.Arg = r.Intn(12)
				}
				asked = append(asked, o)
			}
			g.turns = append(g.turns, asked)
		}
		l = append(l, g)
	}
	return l
}

// TestSums: X2, against worlds that are played step by step: of no turns one sum, of others one more than there are turns.
func TestSums(t *testing.T) {
	for _, g := range playable() {
		var want []int
		for _, w := range worlds(t, g) {
			want = append(want, world.Sum(w))
		}
		if sums, err := replay.Sums(g.k, g.w, g.turns); !slices.Equal(sums, want) || err != nil {
			t.Errorf("%s: got %v, %v; want %v", g.name, sums, err, want)
		}
	}
}

// TestSumsWorked: X2, a world of which nothing changes but its Turn, the first of its bytes, so that the sums are told by hand.
func TestSumsWorked(t *testing.T) {
	var want []int
	for n := range 4 {
		x := 1
		for _, c := range []int{2 * n, 2, 2, 2, 2, 0, 2, 0, 2, 0, 0, 0} {
			x = (257*x + c) % 1000000007
		}
		want = append(want, x)
	}
	if sums, err := replay.Sums(nil, bare(), make([][]api.Order, 3)); !slices.Equal(sums, want) || err != nil {
		t.Errorf("got %v, %v; want %v", sums, err, want)
	}
}

// TestSumsTell: X2, a game that is played otherwise from some turn on has other sums from there on alone.
func TestSumsTell(t *testing.T) {
	a, err := replay.Sums(sorts(), few(), played())
	does(t, err)
	for n := range played() {
		turns := played()
		turns[n] = append(turns[n], api.Order{Player: 0, Unit: 1, What: api.DoTrain, Arg: bird})
		b, err := replay.Sums(sorts(), few(), turns)
		does(t, err)
		if at, err := replay.Parted(a, b); at != n+1 || err != nil {
			t.Errorf("turn %d: parted at %d, %v", n, at, err)
		}
	}
	if at, err := replay.Parted(a, slices.Clone(a)); at != 0 || err != api.ErrNone {
		t.Errorf("one game: parted at %d, %v", at, err)
	}
}

// TestPlayWrong: X2, each of Play's errors at the first turn and at a later one: of Sums, and of Seek behind any turn from there on.
func TestPlayWrong(t *testing.T) {
	for i, l := range wrongOrders() {
		for at := range 5 {
			turns := played()[:5]
			turns[at] = l
			name := fmt.Sprintf("orders %d at turn %d", i, at)
			noPlay(t, name, sorts(), few(), turns, toldOfWrong(i))
			for n := at + 1; n <= 5; n++ {
				noSeek(t, name, sorts(), few(), turns, n, toldOfWrong(i))
			}
		}
	}
}

// TestPlayLate: X2, as far as Turn goes: then ErrFull, ahead of what is wrong with the orders of that turn, behind what is wrong with those ahead.
func TestPlayLate(t *testing.T) {
	for left := range 3 {
		w := few()
		w.Turn = api.MaxNumber - left
		turns := make([][]api.Order, left)
		if sums, err := replay.Sums(sorts(), w, turns); len(sums) != left+1 || err != nil {
			t.Errorf("%d left: got %v, %v", left, sums, err)
		}
		if got, err := replay.Seek(sorts(), w, turns, left); got.Turn != api.MaxNumber || err != nil {
			t.Errorf("%d left: got Turn %d, %v", left, got.Turn, err)
		}
		noPlay(t, "late", sorts(), w, append(turns, nil), api.ErrFull)
		noPlay(t, "late, and wrong orders", sorts(), w, append(turns, wrongOrders()[1]), api.ErrFull)
		if left > 0 {
			turns[left-1] = wrongOrders()[1]
			noPlay(t, "wrong orders, and late", sorts(), w, append(turns, nil), api.ErrRange)
		}
	}
}
