package lock_test

import (
	"math"
	"testing"

	"marchland/api"
	"marchland/plain"
)

// TestWaits: L1, of four players, whoever has sent, and whoever is out: those are waited for that are in and have not, rising.
func TestWaits(t *testing.T) {
	for sent := range 16 {
		for out := range 16 {
			k := made(t, 4, 1)
			var want []int
			for player := 3; player >= 0; player-- {
				if sent>>player&1 == 1 {
					send(t, k, player, 0, stop(player, 1))
				}
				if out>>player&1 == 1 {
					drop(t, k, player)
				}
			}
			for player := range 4 {
				if sent>>player&1 == 0 && out>>player&1 == 0 {
					want = append(want, player)
				}
			}
			waits(t, k, 0, want...)
		}
	}
}

// TestWaitsForNow: L1, who has sent for a turn ahead alone is waited for.
func TestWaitsForNow(t *testing.T) {
	k := made(t, 2, 2)
	send(t, k, 0, 1)
	send(t, k, 1, 2)
	waits(t, k, 0, 0, 1)
	send(t, k, 0, 0)
	waits(t, k, 0, 1)
	send(t, k, 1, 0)
	waits(t, k, 0)
	taken(t, k, 0)
	waits(t, k, 1, 1)
	send(t, k, 1, 1)
	taken(t, k, 1)
	waits(t, k, 2, 0)
	send(t, k, 0, 2)
	taken(t, k, 2)
	waits(t, k, 3, 0, 1)
}

// TestDrop: L1, each player goes out, once, in whatever order.
func TestDrop(t *testing.T) {
	for first := range 3 {
		k := made(t, 3, 0)
		drop(t, k, first)
		next, last := min((first+1)%3, (first+2)%3), max((first+1)%3, (first+2)%3)
		waits(t, k, 0, next, last)
		stays(t, k.Drop(first), api.ErrState)
		waits(t, k, 0, next, last)
		drop(t, k, last)
		waits(t, k, 0, next)
		drop(t, k, next)
		waits(t, k, 0)
		for player := range 3 {
			stays(t, k.Drop(player), api.ErrState)
		}
		waits(t, k, 0)
	}
}

func stays(t *testing.T, err error, want api.Errno) {
	t.Helper()
	if plain.Told(err) != want {
		t.Errorf("Drop: got %v, want %v", err, want)
	}
}

// TestDropOfNone: L1, a player that is none.
func TestDropOfNone(t *testing.T) {
	for players := 1; players <= api.MaxPlayers; players++ {
		k := made(t, players, 0)
		for _, player := range []int{-1, -4, players, players + 1, 5, math.MinInt, math.MaxInt} {
			stays(t, k.Drop(player), api.ErrRange)
		}
		waits(t, k, 0, []int{0, 1, 2, 3}[:players]...)
		for player := range players {
			drop(t, k, player)
		}
		stays(t, k.Drop(players), api.ErrRange)
		waits(t, k, 0)
	}
}

// TestDroppedSent: L1, what a dropped player sent stays, for Now and for turns ahead.
func TestDroppedSent(t *testing.T) {
	k := made(t, 2, 3)
	send(t, k, 1, 0, stop(1, 10))
	send(t, k, 1, 1, stop(1, 11))
	send(t, k, 1, 3, stop(1, 13))
	drop(t, k, 1)
	waits(t, k, 0, 0)
	for turn, want := range [][]api.Order{{stop(1, 10)}, {stop(1, 11)}, nil, {stop(1, 13)}, nil} {
		waits(t, k, turn, 0)
		send(t, k, 0, turn, stop(0, 2))
		taken(t, k, turn, append([]api.Order{stop(0, 2)}, want...)...)
	}
}

// TestDropLater: L1, it is of no matter at which turn a player goes out.
func TestDropLater(t *testing.T) {
	k := moved(t, 3, 1, 4)
	waits(t, k, 4, 0, 1, 2)
	drop(t, k, 0)
	waits(t, k, 4, 1, 2)
	send(t, k, 1, 4)
	send(t, k, 2, 4)
	taken(t, k, 4)
	waits(t, k, 5, 1, 2)
	drop(t, k, 2)
	waits(t, k, 5, 1)
	stays(t, k.Drop(0), api.ErrState)
}
