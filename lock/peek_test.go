package lock_test

import (
	"slices"
	"testing"

	"marchland/api"
	"marchland/lock"
	"marchland/plain"
)

// peeks holds that Peek tells what Take then tells, however often it is asked, and that nothing changes by it.
func peeks(t *testing.T, k *lock.Lock) {
	t.Helper()
	now, waits, ready := k.Now(), k.Waits(), k.Ready()
	turn, l, err := k.Peek()
	fresh := slices.Clone(l)
	stands(t, k, now, waits, ready)
	again, m, ill := k.Peek()
	if again != turn || !slices.Equal(m, l) || plain.Told(ill) != plain.Told(err) {
		t.Fatalf("Peek: got %d, %v, %v; then %d, %v, %v", turn, l, err, again, m, ill)
	}
	fill(m, behind)
	stands(t, k, now, waits, ready)
	taken, l, ill := k.Take()
	if taken != turn || !slices.Equal(l, fresh) || plain.Told(ill) != plain.Told(err) {
		t.Fatalf("Peek: got %d, %v, %v; Take: %d, %v, %v", turn, fresh, err, taken, l, ill)
	}
}

// TestPeek: of a lock that waits, that is ready, whose orders are too many, and that all have left.
func TestPeek(t *testing.T) {
	k := made(t, 2, 1)
	peeks(t, k)
	send(t, k, 1, 0, march(1, 3, 5), stop(1, 3), stop(1, 2))
	send(t, k, 1, 1, some(1, 60)...)
	peeks(t, k)
	send(t, k, 0, 0, stop(0, 7))
	turn, l, err := k.Peek()
	if want := []api.Order{stop(0, 7), stop(1, 2), stop(1, 3)}; turn != 0 || !slices.Equal(l, want) || err != nil {
		t.Fatalf("got %d, %v, %v; want %v", turn, l, err, want)
	}
	peeks(t, k)
	if k.Now() != 1 {
		t.Fatalf("Now is %d", k.Now())
	}
	peeks(t, k)
	send(t, k, 0, 1, stop(0, 7))
	peeks(t, k)
	drop(t, k, 0)
	drop(t, k, 1)
	peeks(t, k)
	if _, _, err := k.Peek(); plain.Told(err) != api.ErrFull {
		t.Errorf("got %v", err)
	}
	k = made(t, 1, 0)
	drop(t, k, 0)
	for range 5 {
		peeks(t, k)
	}
	if k.Now() != 5 {
		t.Errorf("Now is %d", k.Now())
	}
}
