package turn_test

import (
	"testing"

	"marchland/api"
	"marchland/plain"
	"marchland/turn"
)

// shown are copies of the worlds that Watch shows, and what it tells.
func shown(w api.World, turns [][]api.Order) (l []api.World, last api.World, err error) {
	last, err = turn.Watch(sorts(), w, turns, func(w api.World) { l = append(l, copied(w)) })
	return l, last, err
}

// TestWatch: T2, each world is shown, at first and behind each turn, and what is told is what Play gives.
func TestWatch(t *testing.T) {
	w := few(t)
	turns := [][]api.Order{ordinary(), nil, ordinary(), nil, nil}
	for n := range len(turns) + 1 {
		l, last, err := shown(w, turns[:n])
		if err != nil || len(l) != n+1 || !alike(last, l[n]) {
			t.Fatalf("%d turns: got %d worlds, %v", n, len(l), err)
		}
		for i, got := range l {
			if want, err := turn.Play(sorts(), w, turns[:i]); !alike(got, want) || err != nil {
				t.Errorf("%d turns: behind %d: got %v, want %v, %v", n, i, got, want, err)
			}
		}
	}
	if !alike(w, few(t)) {
		t.Errorf("what was handed in became %v", w)
	}
}

// TestWatchWrong: T2, of a world that is wrong, or of too many turns, nothing is shown; of a wrong turn what is ahead of it.
func TestWatchWrong(t *testing.T) {
	none := few(t)
	none.Gold = nil
	late := few(t)
	late.Turn = api.MaxNumber - 1
	for _, c := range []struct {
		name  string
		w     api.World
		turns [][]api.Order
		many  int
		told  api.Errno
	}{
		{"a wrong world", none, idle(2), 0, api.ErrRange},
		{"too many turns", few(t), idle(api.MaxTurns + 1), 0, api.ErrFull},
		{"a wrong order at once", few(t), [][]api.Order{badOrder(), nil}, 1, api.ErrRange},
		{"a wrong order later", few(t), [][]api.Order{nil, nil, badOrder(), tooMany()}, 3, api.ErrRange},
		{"late", late, idle(2), 2, api.ErrFull},
	} {
		l, last, err := shown(c.w, c.turns)
		if len(l) != c.many || !alike(last, api.World{}) || plain.Told(err) != c.told {
			t.Errorf("%s: got %d worlds, %v, %v; want %d, %v", c.name, len(l), last, err, c.many, c.told)
		}
	}
}
