package hall_test

import (
	"fmt"
	"math"
	"slices"
	"testing"

	"marchland/api"
	"marchland/hall"
)

// noSend holds that orders are refused, and nothing that is told changes by it.
func noSend(t *testing.T, h *hall.Hall, name string, player int, l []api.Order, want api.Errno) {
	t.Helper()
	before := told(h)
	for range 2 {
		tells(t, fmt.Sprintf("%s: Send of %d, %v", name, player, l), h.Send(name, player, l), want)
	}
	if after := told(h); after != before {
		t.Errorf("%s: from %s comes %s", name, before, after)
	}
}

func hasTurns(t *testing.T, h *hall.Hall, name string, want ...[]api.Order) {
	t.Helper()
	for range 2 {
		if got := turns(t, h, name); !sameTurns(got, want) {
			t.Fatalf("%s: Turns: got %v, want %v", name, got, want)
		}
	}
}

// TestSendAhead: G2, for Now first, and then for one turn after the other, up to the delay, and for no more; each counts in its turn.
func TestSendAhead(t *testing.T) {
	for _, delay := range []int{0, 1, 2, 5, 19, 20} {
		h := of(t, delay)
		var want [][]api.Order
		for n := range delay + 1 {
			l := []api.Order{march(1, 3, n%12)}
			does(t, h.Send("few", 1, l))
			want = append(want, l)
			waits(t, h, "few")
		}
		noSend(t, h, "few", 1, []api.Order{stop(1, 3)}, api.ErrState)
		noSend(t, h, "few", 1, nil, api.ErrState)
		for n := range delay + 1 {
			sends(t, h, "few", nil)
			waits(t, h, "few")
			does(t, h.Send("few", 2, nil))
			ticks(t, h, "few")
			hasTurns(t, h, "few", want[:n+1]...)
		}
		waits(t, h, "few")
	}
}

// TestSendBehindTick: G2, Now goes on with each turn, so that one more may be sent then.
func TestSendBehindTick(t *testing.T) {
	for _, delay := range []int{0, 1, 3, 20} {
		h := of(t, delay)
		var want [][]api.Order
		for n := range delay {
			does(t, h.Send("few", 0, []api.Order{march(0, 4, n%12)}))
		}
		for n := range 2*delay + 5 {
			does(t, h.Send("few", 0, []api.Order{march(0, 4, (n+delay)%12)}))
			noSend(t, h, "few", 0, []api.Order{stop(0, 4)}, api.ErrState)
			does(t, h.Send("few", 2, []api.Order{stop(2, n)}))
			does(t, h.Send("few", 1, nil))
			ticks(t, h, "few")
			want = append(want, []api.Order{march(0, 4, n%12), stop(2, n)})
			hasTurns(t, h, "few", want...)
		}
	}
}

// TestSendEachForItself: G2, how far ahead one has sent is of no matter for another.
func TestSendEachForItself(t *testing.T) {
	h := of(t, 2)
	for n := range 3 {
		does(t, h.Send("few", 2, []api.Order{stop(2, n)}))
	}
	does(t, h.Send("few", 0, []api.Order{stop(0, 0)}))
	does(t, h.Send("few", 1, []api.Order{stop(1, 0)}))
	does(t, h.Send("few", 1, []api.Order{stop(1, 1)}))
	noSend(t, h, "few", 2, nil, api.ErrState)
	ticks(t, h, "few")
	waits(t, h, "few")
	does(t, h.Send("few", 2, []api.Order{stop(2, 3)}))
	noSend(t, h, "few", 2, nil, api.ErrState)
	does(t, h.Send("few", 0, []api.Order{stop(0, 1)}))
	ticks(t, h, "few")
	does(t, h.Send("few", 0, []api.Order{stop(0, 2)}))
	waits(t, h, "few")
	does(t, h.Send("few", 1, nil))
	ticks(t, h, "few")
	hasTurns(t, h, "few",
		[]api.Order{stop(0, 0), stop(1, 0), stop(2, 0)}, []api.Order{stop(0, 1), stop(1, 1), stop(2, 1)}, []api.Order{stop(0, 2), stop(2, 2)})
}

// TestSendOfNobody: G2, by a player that is none, of worlds of each number of players.
func TestSendOfNobody(t *testing.T) {
	h := hall.New()
	for players := 1; players <= api.MaxPlayers; players++ {
		name := "of" + string(rune('a'+players))
		does(t, h.Create(name, nil, empty(players), 1))
		for _, player := range []int{-1, -2, players, players + 1, 4, 5, 1000, math.MinInt, math.MaxInt} {
			if player >= 0 && player < players {
				continue
			}
			for _, l := range [][]api.Order{nil, {}, {stop(0, 1)}, {stop(player, 1)}, some(0, 61), {march(0, -1, 0)}} {
				noSend(t, h, name, player, l, api.ErrRange)
			}
		}
		waits(t, h, name)
		sends(t, h, name, make([][]api.Order, players)...)
		noSend(t, h, name, players, nil, api.ErrRange)
		ticks(t, h, name)
		waits(t, h, name)
	}
}

// TestSendUnchecked: G2, chapter 6's Check; and what is refused takes no turn's place.
func TestSendUnchecked(t *testing.T) {
	for _, c := range wrongOrders() {
		h := of(t, 1)
		noSend(t, h, "few", 1, c.l, c.told)
		does(t, h.Send("few", 1, []api.Order{stop(1, 5)}))
		noSend(t, h, "few", 1, c.l, c.told)
		sends(t, h, "few", nil)
		does(t, h.Send("few", 2, nil))
		ticks(t, h, "few")
		hasTurns(t, h, "few", []api.Order{stop(1, 5)})
		waits(t, h, "few")
		does(t, h.Send("few", 1, nil))
		sends(t, h, "few", nil)
		does(t, h.Send("few", 2, nil))
		ticks(t, h, "few")
		hasTurns(t, h, "few", []api.Order{stop(1, 5)}, nil)
	}
}

// TestSendOfAnother: G2, with another player's orders, be it one that plays or not.
func TestSendOfAnother(t *testing.T) {
	for _, other := range []int{0, 2, 3} {
		for _, l := range [][]api.Order{
			{stop(other, 3)}, {stop(other, 3), stop(1, 3)}, {stop(1, 3), stop(other, 3)}, {stop(1, 3), stop(other, 3), stop(1, 4)},
			append(some(1, 59), stop(other, 3)), some(other, 60),
		} {
			h := of(t, 1)
			noSend(t, h, "few", 1, l, api.ErrShape)
			does(t, h.Send("few", 1, []api.Order{stop(1, 9)}))
			noSend(t, h, "few", 1, l, api.ErrShape)
			sends(t, h, "few", nil)
			waits(t, h, "few")
			does(t, h.Send("few", 2, nil))
			ticks(t, h, "few")
			hasTurns(t, h, "few", []api.Order{stop(1, 9)})
		}
	}
}

// TestSendNothing: G2, no orders are sent too: the player is waited for no more, and can't send again for that turn.
func TestSendNothing(t *testing.T) {
	for _, l := range [][]api.Order{nil, {}, make([]api.Order, 0, 9)} {
		h := of(t, 0)
		for range 3 {
			sends(t, h, "few", l, l)
			noSend(t, h, "few", 1, []api.Order{stop(1, 3)}, api.ErrState)
			waits(t, h, "few")
			does(t, h.Send("few", 2, l))
			ticks(t, h, "few")
		}
		hasTurns(t, h, "few", nil, nil, nil)
	}
}

// TestSendMost: G2, as many orders as may be, and numbers at their ends.
func TestSendMost(t *testing.T) {
	for _, l := range [][]api.Order{
		some(1, 60), {march(1, 0, 0)}, {march(1, api.MaxNumber, api.MaxNumber)}, {train(1, 0, api.MaxNumber)}, {stop(1, api.MaxNumber)},
	} {
		h := of(t, 0)
		sends(t, h, "few", nil, l, nil)
		ticks(t, h, "few")
		hasTurns(t, h, "few", l)
	}
}

// TestSendFirstError: G2, P3: a world that is none, then a player that is none, then that all turns are sent for, then Check, then another's orders.
func TestSendFirstError(t *testing.T) {
	for _, delay := range []int{0, 1, 20} {
		h := of(t, delay)
		for n := range delay + 1 {
			does(t, h.Send("few", 1, []api.Order{stop(1, n)}))
		}
		bad, another, many := []api.Order{march(1, -1, 0)}, []api.Order{stop(0, 1)}, some(1, 61)
		for _, l := range [][]api.Order{bad, another, many, {march(0, -1, 0)}, some(0, 61)} {
			noSend(t, h, "none", 1, l, api.ErrNone)
			noSend(t, h, "Few", -1, l, api.ErrNone)
			noSend(t, h, "few", 3, l, api.ErrRange)
			noSend(t, h, "few", -1, l, api.ErrRange)
			noSend(t, h, "few", 1, l, api.ErrState)
		}
		noSend(t, h, "few", 2, some(0, 61), api.ErrFull)
		noSend(t, h, "few", 2, append(slices.Clone(another), march(2, -1, 0)), api.ErrRange)
		noSend(t, h, "few", 2, []api.Order{march(0, -1, 0)}, api.ErrRange)
		noSend(t, h, "few", 2, another, api.ErrShape)
	}
}
