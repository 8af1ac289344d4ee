package lock_test

import (
	"slices"
	"testing"

	"marchland/api"
	"marchland/lock"
	"marchland/plain"
)

// taken takes a turn, and tells whether it is the one that it should be, and Now the one behind it.
func taken(t *testing.T, k *lock.Lock, turn int, want ...api.Order) {
	t.Helper()
	got, l, err := k.Take()
	if got != turn || !slices.Equal(l, want) || err != nil {
		t.Fatalf("Take: got %d, %v, %v; want %d, %v", got, l, err, turn, want)
	}
	if k.Now() != turn+1 {
		t.Fatalf("Take of %d: Now is %d", turn, k.Now())
	}
}

// keeps takes a turn that can't be taken, and sees that nothing changes.
func keeps(t *testing.T, k *lock.Lock, want api.Errno) {
	t.Helper()
	now, waits, ready := k.Now(), k.Waits(), k.Ready()
	for range 2 {
		if turn, l, err := k.Take(); turn != 0 || len(l) != 0 || plain.Told(err) != want {
			t.Fatalf("Take: got %d, %v, %v; want %v", turn, l, err, want)
		}
		stands(t, k, now, waits, ready)
	}
}

// TestTakeNotReady: L2, while one is waited for nothing comes, at whatever turn.
func TestTakeNotReady(t *testing.T) {
	k := made(t, 3, 1)
	keeps(t, k, api.ErrState)
	send(t, k, 2, 0, stop(2, 1))
	send(t, k, 1, 1, stop(1, 1))
	keeps(t, k, api.ErrState)
	drop(t, k, 0)
	keeps(t, k, api.ErrState)
	send(t, k, 1, 0, stop(1, 2))
	taken(t, k, 0, stop(1, 2), stop(2, 1))
	keeps(t, k, api.ErrState)
	send(t, k, 2, 1)
	taken(t, k, 1, stop(1, 1))
	keeps(t, k, api.ErrState)
}

// TestTakeOfAnyOrder: L2, player by player, in whatever order they have sent.
func TestTakeOfAnyOrder(t *testing.T) {
	lists := [][]api.Order{
		{march(0, 9, 5), stop(0, 2)},
		nil,
		{stop(2, 8), train(2, 8, 1), stop(2, 0)},
		{train(3, 4, 2), train(3, 4, 0)},
	}
	want := []api.Order{
		stop(0, 2), march(0, 9, 5), stop(2, 0), train(2, 8, 1), stop(2, 8), train(3, 4, 2), train(3, 4, 0),
	}
	for _, order := range [][]int{{0, 1, 2, 3}, {3, 2, 1, 0}, {2, 0, 3, 1}, {1, 3, 0, 2}} {
		k := made(t, 4, 0)
		for _, player := range order {
			send(t, k, player, 0, lists[player]...)
		}
		taken(t, k, 0, want...)
	}
}

// TestTakeOfLast: L2, of each unit the last order counts, and all those to train; another player's unit of the same number is another one.
func TestTakeOfLast(t *testing.T) {
	k := made(t, 2, 0)
	send(t, k, 1, 0, march(1, 3, 5), train(1, 3, 2), march(1, 3, 6), train(1, 3, 1))
	send(t, k, 0, 0, march(0, 3, 7), stop(0, 1), stop(0, 3), march(0, 1, 8))
	taken(t, k, 0, march(0, 1, 8), stop(0, 3), train(1, 3, 2), train(1, 3, 1), march(1, 3, 6))
}

// TestTakeOfNothing: L2, if nobody has orders there is a turn too.
func TestTakeOfNothing(t *testing.T) {
	k := made(t, 2, 0)
	for turn := range 30 {
		send(t, k, 1, turn)
		send(t, k, 0, turn, []api.Order{}...)
		taken(t, k, turn)
	}
}

// TestTakeOfDropped: L1, L2: if all are out it is ready, for ever, and turns come without orders, but for what they had sent.
func TestTakeOfDropped(t *testing.T) {
	for players := 1; players <= api.MaxPlayers; players++ {
		k := made(t, players, 20)
		send(t, k, players-1, 0, stop(players-1, 1))
		send(t, k, players-1, 20, stop(players-1, 2))
		for player := range players {
			drop(t, k, player)
		}
		for turn := range 50 {
			waits(t, k, turn)
			switch turn {
			case 0:
				taken(t, k, turn, stop(players-1, 1))
			case 20:
				taken(t, k, turn, stop(players-1, 2))
			default:
				taken(t, k, turn)
			}
		}
	}
}

// TestTakeAhead: L2, what was sent ahead comes in its turn, and in no other.
func TestTakeAhead(t *testing.T) {
	for _, delay := range []int{1, 3, 20} {
		k := made(t, 2, delay)
		for turn := delay; turn >= 0; turn-- {
			send(t, k, 0, turn, march(0, turn, turn))
		}
		for turn := range 3 * delay {
			waits(t, k, turn, 1)
			send(t, k, 1, turn, march(1, 2, turn))
			taken(t, k, turn, march(0, turn, turn), march(1, 2, turn))
			send(t, k, 0, turn+delay+1, march(0, turn+delay+1, turn+delay+1))
		}
	}
}

// TestTakeFull: L2, as many as may be of a turn, of all players, and one more, which Merge refuses; nothing changes then.
func TestTakeFull(t *testing.T) {
	for _, c := range []struct {
		name  string
		lists [][]api.Order
		full  bool
	}{
		{"60 of one", [][]api.Order{some(0, 60), nil}, false},
		{"60 of two", [][]api.Order{some(0, 30), some(1, 30)}, false},
		{"60 of four", [][]api.Order{some(0, 15), some(1, 15), some(2, 15), some(3, 15)}, false},
		{"61 of two", [][]api.Order{some(0, 1), some(1, 60)}, true},
		{"61 of four", [][]api.Order{some(0, 15), some(1, 15), some(2, 15), some(3, 16)}, true},
		{"240", [][]api.Order{some(0, 60), some(1, 60), some(2, 60), some(3, 60)}, true},
		{"61, of which two count", [][]api.Order{slices.Repeat([]api.Order{stop(0, 1)}, 60), some(1, 1)}, true},
	} {
		k := made(t, len(c.lists), 1)
		for player, l := range c.lists {
			send(t, k, player, 0, l...)
			send(t, k, player, 1, stop(player, 1))
		}
		if !c.full {
			taken(t, k, 0, slices.Concat(c.lists...)...)
			continue
		}
		keeps(t, k, api.ErrFull)
		waits(t, k, 0)
		for player := range c.lists {
			refused(t, k, player, 0, nil, api.ErrClash)
			refused(t, k, player, 1, nil, api.ErrClash)
			refused(t, k, player, 2, nil, api.ErrRange)
			drop(t, k, player)
		}
		// To go out takes nothing of it away.
		keeps(t, k, api.ErrFull)
	}
}

// TestTakeFirstError: L2, P3: a turn that is not ready is told ahead of orders that are too many.
func TestTakeFirstError(t *testing.T) {
	k := made(t, 3, 0)
	send(t, k, 0, 0, some(0, 60)...)
	send(t, k, 1, 0, some(1, 60)...)
	keeps(t, k, api.ErrState)
	send(t, k, 2, 0)
	keeps(t, k, api.ErrFull)
}

// TestTakeTurnBehindTurn: L1, L2: Now rises by one with each Take, and a turn that is over is over for all.
func TestTakeTurnBehindTurn(t *testing.T) {
	k := made(t, 2, 0)
	for turn := range 100 {
		waits(t, k, turn, 0, 1)
		send(t, k, 0, turn)
		send(t, k, 1, turn)
		taken(t, k, turn)
		for player := range 2 {
			refused(t, k, player, turn, nil, api.ErrState)
			refused(t, k, player, 0, nil, api.ErrState)
		}
	}
}
