package lock_test

import (
	"math"
	"slices"
	"testing"

	"marchland/api"
	"marchland/lock"
	"marchland/plain"
)

func order(player, unit, what, arg int) api.Order {
	return api.Order{Player: player, Unit: unit, What: what, Arg: arg}
}

func stop(player, unit int) api.Order       { return order(player, unit, api.DoStop, 0) }
func march(player, unit, arg int) api.Order { return order(player, unit, api.DoMarch, arg) }
func train(player, unit, arg int) api.Order { return order(player, unit, api.DoTrain, arg) }

// some are so many orders of a player, each for a unit of its own, in the order in which Last puts them.
func some(player, many int) (l []api.Order) {
	for i := range many {
		l = append(l, march(player, i, 7))
	}
	return l
}

func made(t *testing.T, players, delay int) *lock.Lock {
	t.Helper()
	k, err := lock.New(players, delay)
	if k == nil || err != nil {
		t.Fatalf("New of %d, %d: got %v, %v", players, delay, k, err)
	}
	return k
}

// send sends what is to be taken.
func send(t *testing.T, k *lock.Lock, player, turn int, l ...api.Order) {
	t.Helper()
	if err := k.Send(player, turn, l); err != nil {
		t.Fatalf("player %d, turn %d, %v: got %v", player, turn, l, err)
	}
}

// refused sends what is not to be taken, and sees that nothing has changed.
func refused(t *testing.T, k *lock.Lock, player, turn int, l []api.Order, want api.Errno) {
	t.Helper()
	now, waits, ready := k.Now(), k.Waits(), k.Ready()
	if err := k.Send(player, turn, l); plain.Told(err) != want {
		t.Errorf("player %d, turn %d, %v: got %v, want %v", player, turn, l, err, want)
	}
	stands(t, k, now, waits, ready)
}

// drop puts a player out.
func drop(t *testing.T, k *lock.Lock, player int) {
	t.Helper()
	if err := k.Drop(player); err != nil {
		t.Fatalf("player %d: Drop: got %v", player, err)
	}
}

// stands tells what a lock answers, twice, since to ask changes nothing.
func stands(t *testing.T, k *lock.Lock, now int, waits []int, ready bool) {
	t.Helper()
	for range 2 {
		if n, w, r := k.Now(), k.Waits(), k.Ready(); n != now || !slices.Equal(w, waits) || r != ready {
			t.Fatalf("Now, Waits, Ready: got %d, %v, %v; want %d, %v, %v", n, w, r, now, waits, ready)
		}
	}
}

// waits is stands of a lock that waits for some, or for none.
func waits(t *testing.T, k *lock.Lock, now int, players ...int) {
	t.Helper()
	stands(t, k, now, players, len(players) == 0)
}

// TestNew: L1, a lock waits for all its players, at turn 0.
func TestNew(t *testing.T) {
	for players := 1; players <= api.MaxPlayers; players++ {
		for delay := 0; delay <= 20; delay++ {
			waits(t, made(t, players, delay), 0, []int{0, 1, 2, 3}[:players]...)
		}
	}
}

// TestNewOfNone: L1, players and delays that may not be.
func TestNewOfNone(t *testing.T) {
	for _, c := range []struct{ players, delay int }{
		{0, 0}, {0, 20}, {5, 0}, {5, 20}, {-1, 3}, {-4, 3}, {1000000, 0}, {math.MinInt, 0}, {math.MaxInt, 0},
		{1, -1}, {4, -1}, {1, 21}, {4, 21}, {2, math.MinInt}, {2, math.MaxInt},
		{0, -1}, {5, 21}, {math.MaxInt, math.MinInt},
	} {
		if k, err := lock.New(c.players, c.delay); k != nil || plain.Told(err) != api.ErrRange {
			t.Errorf("%d, %d: got %v, %v", c.players, c.delay, k, err)
		}
	}
}

// moved is a lock at a turn, for which all have sent nothing until then.
func moved(t *testing.T, players, delay, turn int) *lock.Lock {
	t.Helper()
	k := made(t, players, delay)
	for n := range turn {
		for player := range players {
			send(t, k, player, n)
		}
		taken(t, k, n)
	}
	return k
}

// TestSendTurns: L1, for which turns a player may send: from Now on to the one that is delay further.
func TestSendTurns(t *testing.T) {
	for _, delay := range []int{0, 1, 2, 20} {
		for _, now := range []int{0, 1, 5} {
			k := moved(t, 2, delay, now)
			for turn := range now {
				refused(t, k, 1, turn, nil, api.ErrState)
			}
			for _, turn := range []int{-1, -delay, -20, math.MinInt, math.MinInt + 1} {
				if turn < now {
					refused(t, k, 1, turn, nil, api.ErrState)
				}
			}
			for _, turn := range []int{now + delay + 1, now + delay + 2, now + 21, api.MaxNumber, math.MaxInt - delay, math.MaxInt - now, math.MaxInt} {
				refused(t, k, 1, turn, nil, api.ErrRange)
			}
			for turn := now + delay; turn > now; turn-- {
				send(t, k, 1, turn)
				waits(t, k, now, 0, 1)
			}
			send(t, k, 1, now)
			waits(t, k, now, 0)
		}
	}
}

// TestSendPlayers: L1, by a player that is none.
func TestSendPlayers(t *testing.T) {
	for players := 1; players <= api.MaxPlayers; players++ {
		k := made(t, players, 1)
		for _, player := range []int{-1, -2, players, players + 1, 4, 5, math.MinInt, math.MaxInt} {
			if player < 0 || player >= players {
				refused(t, k, player, 0, nil, api.ErrRange)
				refused(t, k, player, 1, nil, api.ErrRange)
			}
		}
		for player := range players {
			send(t, k, player, 0)
		}
		waits(t, k, 0)
	}
}

// TestSendTwice: L1, for one turn a player sends once, be it no orders at all; for another turn, or another player, it is no matter.
func TestSendTwice(t *testing.T) {
	for _, first := range [][]api.Order{nil, {}, {stop(1, 3)}} {
		for _, second := range [][]api.Order{nil, {}, {stop(1, 3)}, {march(1, 4, 2)}} {
			k := made(t, 3, 2)
			send(t, k, 1, 0, first...)
			refused(t, k, 1, 0, second, api.ErrClash)
			send(t, k, 1, 2, first...)
			refused(t, k, 1, 2, second, api.ErrClash)
			refused(t, k, 1, 0, second, api.ErrClash)
			waits(t, k, 0, 0, 2)
			send(t, k, 1, 1, second...)
			send(t, k, 0, 0)
			send(t, k, 2, 0)
			taken(t, k, 0, first...)
			refused(t, k, 1, 1, first, api.ErrClash)
			refused(t, k, 1, 2, first, api.ErrClash)
			send(t, k, 1, 3)
		}
	}
}

// TestSendOfDropped: L1, one that is out sends nothing any more, for whatever turn.
func TestSendOfDropped(t *testing.T) {
	k := moved(t, 3, 2, 2)
	drop(t, k, 1)
	for _, turn := range []int{math.MinInt, -1, 0, 1, 2, 3, 4, 5, math.MaxInt} {
		refused(t, k, 1, turn, nil, api.ErrState)
		refused(t, k, 1, turn, []api.Order{stop(1, 3)}, api.ErrState)
	}
	waits(t, k, 2, 0, 2)
	send(t, k, 0, 2)
	send(t, k, 2, 4)
	send(t, k, 2, 2)
	taken(t, k, 2)
	refused(t, k, 1, 3, nil, api.ErrState)
}

// unchecked are orders that Check refuses, each by one fault, of the player 1 as far as they may be.
func unchecked() (l []wrong) {
	for _, o := range []api.Order{
		march(-1, 0, 0), march(4, 0, 0), march(math.MinInt, 0, 0), march(math.MaxInt, 0, 0),
		march(1, -1, 0), march(1, 1000001, 0), march(1, math.MinInt, 0), march(1, math.MaxInt, 0),
		march(1, 0, -1), march(1, 0, 1000001), march(1, 0, math.MinInt), march(1, 0, math.MaxInt),
		order(1, 0, -1, 0), order(1, 0, 4, 0), order(1, 0, math.MinInt, 0), order(1, 0, math.MaxInt, 0),
		order(1, 0, api.DoStop, 1), order(1, 0, api.DoStop, -1),
	} {
		l = append(l, wrong{[]api.Order{o}, api.ErrRange}, wrong{[]api.Order{stop(1, 2), o, stop(1, 3)}, api.ErrRange},
			wrong{append(some(1, 59), o), api.ErrRange}, wrong{append(some(1, 60), o), api.ErrFull})
	}
	return append(l, wrong{some(1, 61), api.ErrFull}, wrong{some(1, 200), api.ErrFull}, wrong{slices.Repeat([]api.Order{stop(1, 1)}, 61), api.ErrFull})
}

type wrong struct {
	l    []api.Order
	told api.Errno
}

// TestSendUnchecked: L1, chapter 6's Check.
func TestSendUnchecked(t *testing.T) {
	for _, c := range unchecked() {
		k := made(t, 2, 1)
		refused(t, k, 1, 0, c.l, c.told)
		refused(t, k, 1, 1, c.l, c.told)
		send(t, k, 0, 0)
		send(t, k, 1, 0, stop(1, 5))
		taken(t, k, 0, stop(1, 5))
		send(t, k, 0, 1)
		waits(t, k, 1, 1)
		send(t, k, 1, 1)
		taken(t, k, 1)
	}
}

// TestSendMost: L1, as many orders as may be, and numbers at their ends.
func TestSendMost(t *testing.T) {
	for _, l := range [][]api.Order{
		some(1, 60), {march(1, 0, 0)}, {march(1, api.MaxNumber, api.MaxNumber)}, {train(1, 0, api.MaxNumber)}, {stop(1, api.MaxNumber)},
	} {
		k := made(t, 2, 0)
		send(t, k, 1, 0, l...)
		waits(t, k, 0, 0)
		send(t, k, 0, 0)
		taken(t, k, 0, l...)
	}
}

// TestSendOfAnother: L1, each order is the player's own: another's is refused, be it one that plays, is out, or does not play.
func TestSendOfAnother(t *testing.T) {
	for _, other := range []int{0, 2, 3} {
		for _, l := range [][]api.Order{
			{stop(other, 3)}, {stop(other, 3), stop(1, 3)}, {stop(1, 3), stop(other, 3)}, {stop(1, 3), stop(other, 3), stop(1, 4)},
			append(some(1, 59), stop(other, 3)), some(other, 60),
		} {
			k := made(t, 3, 1)
			drop(t, k, 2)
			refused(t, k, 1, 0, l, api.ErrShape)
			refused(t, k, 1, 1, l, api.ErrShape)
			send(t, k, 1, 0, stop(1, 9))
			send(t, k, 0, 0)
			taken(t, k, 0, stop(1, 9))
			waits(t, k, 1, 0, 1)
		}
	}
}

// TestSendFirstError: L1, P3: of two faults the one is told that the chapter names first.
func TestSendFirstError(t *testing.T) {
	// It is turn 2; the player 1 has sent for 2 and 3, and the player 2 for 3, and is out.
	k := moved(t, 3, 2, 2)
	send(t, k, 1, 2)
	send(t, k, 1, 3)
	send(t, k, 2, 3)
	drop(t, k, 2)
	bad, another, many := []api.Order{march(1, -1, 0)}, []api.Order{stop(0, 1)}, some(1, 61)
	for _, c := range []struct {
		name         string
		player, turn int
		l            []api.Order
		want         api.Errno
	}{
		{"none, over", 3, 1, nil, api.ErrRange},
		{"none, too far", -1, 5, nil, api.ErrRange},
		{"none, bad", 3, 2, bad, api.ErrRange},
		{"none, too many", 3, 2, many, api.ErrRange},
		{"none, of another", 3, 2, another, api.ErrRange},
		{"out, over", 2, 1, nil, api.ErrState},
		{"out, too far", 2, 5, nil, api.ErrState},
		{"out, sent", 2, 3, nil, api.ErrState},
		{"out, bad", 2, 2, bad, api.ErrState},
		{"out, of another", 2, 2, another, api.ErrState},
		{"over, bad", 1, 1, bad, api.ErrState},
		{"over, too many", 1, 1, many, api.ErrState},
		{"over, of another", 1, 1, another, api.ErrState},
		{"too far, too many", 1, 5, many, api.ErrRange},
		{"too far, of another", 1, 5, another, api.ErrRange},
		{"sent, bad", 1, 2, bad, api.ErrClash},
		{"sent, too many", 1, 3, many, api.ErrClash},
		{"sent, of another", 1, 3, another, api.ErrClash},
		{"too many, of another", 1, 4, some(0, 61), api.ErrFull},
		{"of another, bad", 1, 4, append(slices.Clone(another), bad...), api.ErrRange},
		{"bad, of another", 1, 4, append(slices.Clone(bad), another...), api.ErrRange},
		{"of another, and bad itself", 1, 4, []api.Order{march(0, -1, 0)}, api.ErrRange},
	} {
		t.Run(c.name, func(t *testing.T) { refused(t, k, c.player, c.turn, c.l, c.want) })
	}
	waits(t, k, 2, 0)
}
