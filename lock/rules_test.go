package lock_test

import (
	"slices"
	"testing"

	"marchland/api"
	"marchland/lock"
)

// behind is an order that lies where no list has one, and would be refused.
var behind = order(9, -9, 9, 9)

// roomy is a list with something behind its length.
func roomy(l []api.Order) []api.Order { return append(slices.Clone(l), behind, behind)[:len(l)] }

func isRoomy(l, begin []api.Order) bool {
	return slices.Equal(l[:len(l)+2], append(slices.Clone(begin), behind, behind))
}

func fill[T any](l []T, x T) {
	l = l[:cap(l)]
	for i := range l {
		l[i] = x
	}
}

// TestOrdersStay: P2, P4: what is handed in stays as it was, and what lies behind it is neither read nor written, whether it is taken or refused, and when the turn is taken.
func TestOrdersStay(t *testing.T) {
	for _, begin := range [][]api.Order{
		nil, {stop(1, 3)}, {march(1, 9, 1), train(1, 3, 1), march(1, 9, 2), stop(1, 3)}, some(1, 60), some(1, 61), {stop(0, 3)}, {march(1, -1, 1)},
	} {
		k := made(t, 2, 0)
		l := roomy(begin)
		for range 2 {
			k.Send(1, 0, l)
			k.Send(1, 7, l)
			if !isRoomy(l, begin) {
				t.Errorf("%v: Send makes %v of it", begin, l)
			}
		}
		drop(t, k, 0)
		drop(t, k, 1)
		if _, _, err := k.Take(); err != nil || !isRoomy(l, begin) {
			t.Errorf("%v: Take, %v, makes %v of it", begin, err, l)
		}
	}
}

// TestSentIsKept: P2, what is handed in and changed afterwards does not change the lock.
func TestSentIsKept(t *testing.T) {
	k := made(t, 2, 1)
	now, ahead, other := roomy([]api.Order{stop(1, 3), stop(1, 4)}), roomy([]api.Order{march(1, 3, 5)}), roomy([]api.Order{stop(0, 6)})
	send(t, k, 1, 0, now...)
	if err := k.Send(1, 1, ahead); err != nil {
		t.Fatal(err)
	}
	send(t, k, 0, 0, other...)
	fill(now, behind)
	fill(ahead, behind)
	fill(other, behind)
	taken(t, k, 0, stop(0, 6), stop(1, 3), stop(1, 4))
	drop(t, k, 0)
	taken(t, k, 1, march(1, 3, 5))
}

// TestOneListForMany: P2, one list that is sent for several turns, and changed between, is each time what it was then.
func TestOneListForMany(t *testing.T) {
	k := made(t, 1, 3)
	l := make([]api.Order, 1, 8)
	for turn := range 4 {
		l[0] = march(0, 5, turn)
		if err := k.Send(0, turn, l); err != nil {
			t.Fatal(err)
		}
	}
	for turn := range 4 {
		taken(t, k, turn, march(0, 5, turn))
	}
}

// TestAnswersAreFresh: P2, what is written into an answer changes neither the lock nor another answer.
func TestAnswersAreFresh(t *testing.T) {
	k := made(t, 3, 1)
	for range 2 {
		fill(k.Waits(), 77)
	}
	waits(t, k, 0, 0, 1, 2)
	drop(t, k, 2)
	handed := [][]api.Order{{stop(0, 3)}, {march(1, 3, 5)}}
	for player, l := range handed {
		for turn := range 2 {
			if err := k.Send(player, turn, l); err != nil {
				t.Fatal(err)
			}
		}
	}
	want := []api.Order{stop(0, 3), march(1, 3, 5)}
	_, first, _ := k.Take()
	_, second, _ := k.Take()
	if !slices.Equal(first, want) || !slices.Equal(second, want) {
		t.Fatalf("got %v, %v; want %v", first, second, want)
	}
	fill(first, behind)
	if !slices.Equal(second, want) || !slices.Equal(slices.Concat(handed...), want) {
		t.Errorf("they became %v, %v", second, handed)
	}
}

// TestWaitsStays: P2, an answer is not changed by what is called later.
func TestWaitsStays(t *testing.T) {
	k := made(t, 3, 0)
	before := k.Waits()
	send(t, k, 0, 0)
	drop(t, k, 1)
	if !slices.Equal(before, []int{0, 1, 2}) || !slices.Equal(k.Waits(), []int{2}) {
		t.Errorf("it became %v, and now is %v", before, k.Waits())
	}
}

// TestLocksAreApart: P2, what is done to one lock is not seen in another.
func TestLocksAreApart(t *testing.T) {
	a, b := made(t, 2, 1), made(t, 2, 1)
	send(t, a, 0, 0, stop(0, 1))
	drop(t, a, 1)
	waits(t, b, 0, 0, 1)
	taken(t, a, 0, stop(0, 1))
	waits(t, b, 0, 0, 1)
	send(t, b, 0, 0, stop(0, 2))
	send(t, b, 1, 0)
	taken(t, b, 0, stop(0, 2))
	waits(t, a, 1, 0)
	waits(t, b, 1, 0, 1)
}

// TestOneWorld: of the same orders the same comes, in whatever order and however far ahead they are sent (DOC.md, 'What is to be true of the whole').
func TestOneWorld(t *testing.T) {
	asked := func(player, turn int) []api.Order {
		return []api.Order{march(player, turn%3, turn), train(player, 7, player), march(player, turn%2, turn+1)}
	}
	play := func(delay int, rising bool) (all [][]api.Order) {
		k := made(t, 3, delay)
		for turn := range 12 {
			if turn%(delay+1) == 0 {
				ahead(t, k, turn, delay, rising, asked)
			}
			_, l, err := k.Take()
			if err != nil {
				t.Fatal(err)
			}
			all = append(all, l)
		}
		return all
	}
	want := play(0, true)
	for _, delay := range []int{0, 1, 3, 11} {
		for _, rising := range []bool{false, true} {
			if got := play(delay, rising); !slices.EqualFunc(got, want, slices.Equal) {
				t.Errorf("delay %d, rising %v: got %v, want %v", delay, rising, got, want)
			}
		}
	}
}

// ahead sends, for a turn and those that the delay lets be sent with it, the orders of three players.
func ahead(t *testing.T, k *lock.Lock, turn, delay int, rising bool, asked func(player, turn int) []api.Order) {
	t.Helper()
	for i := range delay + 1 {
		for player := range 3 {
			if !rising {
				player = 2 - player
			}
			later := turn + i
			if player == 1 {
				later = turn + delay - i
			}
			send(t, k, player, later, asked(player, later)...)
		}
	}
}
