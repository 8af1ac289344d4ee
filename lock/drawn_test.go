package lock_test

import (
	"math/rand"
	"slices"
	"testing"

	"marchland/api"
	"marchland/orders"
	"marchland/plain"
)

// letter is what a player has sent, and notes has all that was done to a lock: what it answers is looked up there.
type letter struct {
	player, turn int
	l            []api.Order
}

type notes struct {
	players, delay, now int
	letters             []letter
	out                 []int
}

func (n *notes) has(player, turn int) bool {
	return slices.ContainsFunc(n.letters, func(x letter) bool { return x.player == player && x.turn == turn })
}

func (n *notes) send(player, turn int, l []api.Order) api.Errno {
	if player < 0 || player >= n.players {
		return api.ErrRange
	}
	if slices.Contains(n.out, player) || turn < n.now {
		return api.ErrState
	}
	if turn > n.now+n.delay {
		return api.ErrRange
	}
	if n.has(player, turn) {
		return api.ErrClash
	}
	if err := orders.Check(l); err != nil {
		return plain.Told(err)
	}
	for _, o := range l {
		if o.Player != player {
			return api.ErrShape
		}
	}
	n.letters = append(n.letters, letter{player, turn, slices.Clone(l)})
	return api.OK
}

func (n *notes) drop(player int) api.Errno {
	if player < 0 || player >= n.players {
		return api.ErrRange
	}
	if slices.Contains(n.out, player) {
		return api.ErrState
	}
	n.out = append(n.out, player)
	return api.OK
}

func (n *notes) waits() (l []int) {
	for player := range n.players {
		if !slices.Contains(n.out, player) && !n.has(player, n.now) {
			l = append(l, player)
		}
	}
	return l
}

func (n *notes) take() (int, []api.Order, api.Errno) {
	if len(n.waits()) > 0 {
		return 0, nil, api.ErrState
	}
	var all []api.Order
	for player := range n.players {
		for _, x := range n.letters {
			if x.turn == n.now && x.player == player {
				all = append(all, x.l...)
			}
		}
	}
	l, err := orders.Last(all)
	if err != nil {
		return 0, nil, plain.Told(err)
	}
	n.now++
	return n.now - 1, l, api.OK
}

// drawnOrders are mostly a player's own, mostly few, and mostly right.
func drawnOrders(r *rand.Rand, player int) (l []api.Order) {
	many := r.Intn(5)
	if r.Intn(10) == 0 {
		many = 20 + r.Intn(43)
	}
	for range many {
		o := order(player, r.Intn(4), r.Intn(4), r.Intn(5))
		if o.What == api.DoStop {
			o.Arg = 0
		}
		l = append(l, o)
	}
	if many > 0 && r.Intn(8) == 0 {
		l[r.Intn(many)].Player = r.Intn(6) - 1
	}
	if many > 0 && r.Intn(12) == 0 {
		l[r.Intn(many)].Arg = -1
	}
	return l
}

// TestDrawn: L1, L2: whatever is called, a lock answers what its notes tell.
func TestDrawn(t *testing.T) {
	r := rand.New(rand.NewSource(15))
	takes, told := 0, map[api.Errno]int{}
	for range 1500 {
		n := &notes{players: 1 + r.Intn(4), delay: r.Intn(4)}
		if r.Intn(5) == 0 {
			n.delay = 20
		}
		k := made(t, n.players, n.delay)
		for range 60 {
			switch what := r.Intn(20); {
			case what == 0:
				player := r.Intn(n.players+2) - 1
				if got, want := plain.Told(k.Drop(player)), n.drop(player); got != want {
					t.Fatalf("%v: Drop of %d: got %v, want %v", n, player, got, want)
				}
			case what < 6:
				turn, l, err := k.Take()
				wantTurn, want, wantErr := n.take()
				if turn != wantTurn || !slices.Equal(l, want) || plain.Told(err) != wantErr {
					t.Fatalf("%v: Take: got %d, %v, %v; want %d, %v, %v", n, turn, l, err, wantTurn, want, wantErr)
				}
				told[wantErr]++
				if err == nil {
					takes++
				}
			default:
				player, turn := r.Intn(n.players), n.now+r.Intn(n.delay+1)
				if r.Intn(10) == 0 {
					player = r.Intn(n.players+2) - 1
				}
				if r.Intn(2) == 0 {
					turn = n.now
				}
				if r.Intn(8) == 0 {
					turn = n.now - 1 + r.Intn(n.delay+3)
				}
				l := drawnOrders(r, player)
				want := n.send(player, turn, l)
				if got := plain.Told(k.Send(player, turn, l)); got != want {
					t.Fatalf("%v: Send of %d, %d, %v: got %v, want %v", n, player, turn, l, got, want)
				}
				told[want]++
			}
			stands(t, k, n.now, n.waits(), len(n.waits()) == 0)
		}
	}
	for _, e := range []api.Errno{api.OK, api.ErrRange, api.ErrState, api.ErrClash, api.ErrFull, api.ErrShape} {
		if told[e] < 200 {
			t.Errorf("%v came %d times alone", e, told[e])
		}
	}
	if takes < 2000 {
		t.Errorf("%d turns were taken alone", takes)
	}
}
