package replay_test

import (
	"fmt"
	"math"
	"testing"

	"marchland/api"
	"marchland/replay"
)

// TestSeek: X2, at 0, at each turn, and at the last, against worlds that are played step by step.
func TestSeek(t *testing.T) {
	for _, g := range playable() {
		for n, want := range worlds(t, g) {
			if n > 20 && n < len(g.turns)-3 && n%37 != 0 {
				continue
			}
			if got, err := replay.Seek(g.k, g.w, g.turns, n); !same(got, want) || err != nil {
				t.Errorf("%s: Seek %d: got %v, %v; want %v", g.name, n, got, err, want)
			}
		}
	}
}

// TestSeekRange: X2, one less than 0, one more than there are, and far away: ErrRange, ahead of all that may be wrong beside.
func TestSeekRange(t *testing.T) {
	for _, turns := range [][][]api.Order{nil, {nil}, played(), make([][]api.Order, api.MaxTurns), make([][]api.Order, api.MaxTurns+1), wrongOrders()} {
		many := len(turns)
		for _, n := range []int{-1, -2, many + 1, many + 2, -many - 1, 2*many + 1, -api.MaxNumber, api.MaxNumber, math.MaxInt, math.MinInt} {
			noSeek(t, fmt.Sprint(many, " turns"), sorts(), few(), turns, n, api.ErrRange)
			for _, f := range faults() {
				k, w := wrong(f)
				noSeek(t, f.name, k, w, turns, n, api.ErrRange)
			}
		}
	}
}

// TestSeekWrong: X2, each error of chapter 7's Check, at 0 too.
func TestSeekWrong(t *testing.T) {
	for _, f := range faults() {
		k, w := wrong(f)
		for n := range len(played()) + 1 {
			noSeek(t, f.name, k, w, played(), n, f.told)
		}
		noSeek(t, f.name+", and no turns", k, w, nil, 0, f.told)
	}
}

// TestSeekAhead: X2, behind so many turns: those that come later are not played, so that nothing is told of them.
func TestSeekAhead(t *testing.T) {
	all := worlds(t, game{"", sorts(), few(), played()})
	for _, l := range wrongOrders() {
		turns := append(played(), l)
		for n, want := range all {
			if got, err := replay.Seek(sorts(), few(), turns, n); !same(got, want) || err != nil {
				t.Errorf("Seek %d: got %v, %v; want %v", n, got, err, want)
			}
		}
	}
	turns := append(played(), make([][]api.Order, api.MaxTurns)...)
	for _, n := range []int{0, 1, len(played()), api.MaxTurns} {
		if got, err := replay.Seek(sorts(), few(), turns, n); got.Turn != few().Turn+n || err != nil {
			t.Errorf("Seek %d of too many: got Turn %d, %v", n, got.Turn, err)
		}
	}
	noSeek(t, "too many", sorts(), few(), turns, api.MaxTurns+1, api.ErrFull)
	noSeek(t, "too many", sorts(), few(), turns, len(turns), api.ErrFull)
}
