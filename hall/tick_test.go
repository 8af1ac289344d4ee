package hall_test

import (
	"fmt"
	"slices"
	"testing"

	"marchland/api"
	"marchland/hall"
	"marchland/orders"
	"marchland/sight"
	"marchland/turn"
)

// alike holds a world of a hall against one that was played step by step: World, the View of each player, and Turns, which Play brings there.
func alike(t *testing.T, h *hall.Hall, name string, k []api.Kind, first, now api.World, played [][]api.Order) {
	t.Helper()
	if got := stands(t, h, name); !same(got, now) {
		t.Fatalf("%s: World: got %v, want %v", name, got, now)
	}
	for player := range now.Gold {
		got, err := h.View(name, player)
		does(t, err)
		want, err := sight.View(k, now, player)
		does(t, err)
		if !same(got, want) {
			t.Fatalf("%s: View of %d: got %v, want %v", name, player, got, want)
		}
	}
	hasTurns(t, h, name, played...)
	if len(played) > api.MaxTurns {
		return
	}
	got, err := turn.Play(k, first, turns(t, h, name))
	does(t, err)
	if !same(got, now) {
		t.Fatalf("%s: Play of Turns: got %v, want %v", name, got, now)
	}
}

// TestPlayed: G2, worlds that are played, with and without orders, whatever the delay, against worlds that step for themselves.
func TestPlayed(t *testing.T) {
	for _, delay := range []int{0, 1, 3, 20} {
		h := of(t, delay)
		w, played := few(), [][]api.Order(nil)
		alike(t, h, "few", sorts(), few(), w, played)
		for _, lists := range asked() {
			sends(t, h, "few", lists...)
			alike(t, h, "few", sorts(), few(), w, played)
			ticks(t, h, "few")
			l, err := orders.Merge(lists)
			does(t, err)
			w, _, err = turn.Step(sorts(), w, l)
			does(t, err)
			played = append(played, l)
			alike(t, h, "few", sorts(), few(), w, played)
		}
		if w.Next <= few().Next+2 || w.Field.Ore[5] == few().Field.Ore[5] || w.Turn != few().Turn+len(asked()) {
			t.Fatalf("little has happened: %v", w)
		}
	}
}

// TestPlayedAhead: G2, that of the same orders the same comes, however far ahead, and in whatever order of the players, they are sent.
func TestPlayedAhead(t *testing.T) {
	play := func(delay int, by []int) *hall.Hall {
		h := of(t, delay)
		for n := range asked() {
			if n%(delay+1) == 0 {
				for _, player := range by {
					for _, lists := range asked()[n:min(n+delay+1, len(asked()))] {
						does(t, h.Send("few", player, lists[player]))
					}
				}
			}
			ticks(t, h, "few")
		}
		return h
	}
	want := told(play(0, []int{0, 1, 2}))
	for _, delay := range []int{0, 1, 2, 7, 20} {
		for _, by := range [][]int{{0, 1, 2}, {2, 1, 0}, {1, 2, 0}} {
			if got := told(play(delay, by)); got != want {
				t.Errorf("delay %d, by %v: got %s, want %s", delay, by, got, want)
			}
		}
	}
}

// TestTickWaits: G2, while there is anyone that has sent nothing for Now, whoever it is, nothing is played.
func TestTickWaits(t *testing.T) {
	for sent := range 8 {
		h := of(t, 1)
		for player := range 3 {
			if sent>>player&1 == 1 {
				does(t, h.Send("few", player, []api.Order{stop(player, 3)}))
				does(t, h.Send("few", player, nil))
			}
		}
		if sent < 7 {
			waits(t, h, "few")
			hasTurns(t, h, "few")
			for player := range 3 {
				if sent>>player&1 == 0 {
					does(t, h.Send("few", player, []api.Order{stop(player, 3)}))
				}
			}
		}
		ticks(t, h, "few")
		hasTurns(t, h, "few", []api.Order{stop(0, 3), stop(1, 3), stop(2, 3)})
		if sent < 7 {
			waits(t, h, "few")
		} else {
			ticks(t, h, "few")
			waits(t, h, "few")
		}
	}
}

// TestTickMerges: G2, of what was sent counts what chapter 6's Merge leaves, player by player.
func TestTickMerges(t *testing.T) {
	h := of(t, 0)
	does(t, h.Send("few", 2, []api.Order{march(2, 8, 3), train(2, 8, bird), stop(2, 8), train(2, 8, digger)}))
	does(t, h.Send("few", 1, []api.Order{stop(1, 9), march(1, 3, 5), stop(1, 3)}))
	does(t, h.Send("few", 0, []api.Order{gather(0, 4, 5), stop(0, 1), gather(0, 4, 5)}))
	ticks(t, h, "few")
	hasTurns(t, h, "few", []api.Order{stop(0, 1), gather(0, 4, 5), stop(1, 3), stop(1, 9), train(2, 8, bird), train(2, 8, digger), stop(2, 8)})
}

// TestTickTooMany: G2, what Merge refuses: nothing is taken then, and who was ready is ready; with 60 in all it goes.
func TestTickTooMany(t *testing.T) {
	for _, c := range []struct {
		name  string
		lists [][]api.Order
		full  bool
	}{
		{"60 of one", [][]api.Order{nil, some(1, 60), nil}, false},
		{"60 of three", [][]api.Order{some(0, 20), some(1, 20), some(2, 20)}, false},
		{"61 of two", [][]api.Order{some(0, 60), nil, some(2, 1)}, true},
		{"61 of three", [][]api.Order{some(0, 20), some(1, 20), some(2, 21)}, true},
		{"180", [][]api.Order{some(0, 60), some(1, 60), some(2, 60)}, true},
		{"61, of which two count", [][]api.Order{slices.Repeat([]api.Order{stop(0, 1)}, 60), some(1, 1), nil}, true},
	} {
		for n := range 3 {
			h := of(t, 1)
			for range n {
				sends(t, h, "few", nil, nil, nil)
				ticks(t, h, "few")
			}
			sends(t, h, "few", c.lists...)
			if !c.full {
				ticks(t, h, "few")
				hasTurns(t, h, "few", append(make([][]api.Order, n), slices.Concat(c.lists...))...)
				continue
			}
			heldUp(t, h, n)
		}
	}
}

// heldUp holds that few, of delay 1, is ready, stuck, and stays so behind n turns, whatever is sent.
func heldUp(t *testing.T, h *hall.Hall, n int) {
	t.Helper()
	stuck(t, h, "few", api.ErrFull)
	for player := range 3 {
		does(t, h.Send("few", player, nil))
		stuck(t, h, "few", api.ErrFull)
		noSend(t, h, "few", player, nil, api.ErrState)
	}
	stuck(t, h, "few", api.ErrFull)
	hasTurns(t, h, "few", make([][]api.Order, n)...)
}

// TestTickTooLate: G2, what Step refuses: at the greatest Turn nothing is played, and nothing is taken.
func TestTickTooLate(t *testing.T) {
	for before := range 4 {
		h := hall.New()
		does(t, h.Create("few", sorts(), late(api.MaxNumber-before), 1))
		for range before {
			waits(t, h, "few")
			sends(t, h, "few", nil, nil, nil)
			ticks(t, h, "few")
		}
		if w := stands(t, h, "few"); w.Turn != api.MaxNumber {
			t.Fatalf("it is turn %d", w.Turn)
		}
		waits(t, h, "few")
		sends(t, h, "few", []api.Order{stop(0, 1)}, nil)
		waits(t, h, "few")
		does(t, h.Send("few", 2, nil))
		heldUp(t, h, before)
	}
}

// TestTickTooLateAndTooMany: G2, both at once are told as either is.
func TestTickTooLateAndTooMany(t *testing.T) {
	h := hall.New()
	does(t, h.Create("few", sorts(), late(api.MaxNumber), 1))
	sends(t, h, "few", some(0, 60), some(1, 60))
	waits(t, h, "few")
	does(t, h.Send("few", 2, some(2, 60)))
	heldUp(t, h, 0)
}

// TestTickOfGreat: G2, the greatest world there may be, its last turn, and none behind it.
func TestTickOfGreat(t *testing.T) {
	k, first := great()
	h := hall.New()
	does(t, h.Create("great", k, first, 0))
	most := slices.Repeat([]api.Order{train(3, api.MaxNumber-1, api.MaxKinds-1)}, api.MaxOrders)
	sends(t, h, "great", nil, nil, nil, most)
	ticks(t, h, "great")
	w, _, err := turn.Step(k, first, most)
	does(t, err)
	alike(t, h, "great", k, first, w, [][]api.Order{most})
	sends(t, h, "great", nil, nil, nil, nil)
	stuck(t, h, "great", api.ErrFull)
}

// TestTickOfMany: G2, a hall plays on behind as many turns as Play takes, and Turns tells all.
func TestTickOfMany(t *testing.T) {
	h := of(t, 0)
	w, played := few(), [][]api.Order(nil)
	for n := range api.MaxTurns + 5 {
		l := []api.Order{march(1, 3, n%12)}
		sends(t, h, "few", nil, l, nil)
		ticks(t, h, "few")
		var err error
		w, _, err = turn.Step(sorts(), w, l)
		does(t, err)
		played = append(played, l)
		if n%20 == 0 || n >= api.MaxTurns-2 {
			alike(t, h, "few", sorts(), few(), w, played)
		}
	}
}

// TestView: G2, of each player, and of those that are none, against chapter 11's View of World.
func TestView(t *testing.T) {
	h := of(t, 0)
	k, w := great()
	does(t, h.Create("great", k, w, 0))
	sortsOf := map[string][]api.Kind{"few": sorts(), "bare": nil, "great": k}
	for _, lists := range asked() {
		for _, name := range h.Names() {
			for _, player := range []int{-1 << 63, -1, 0, 1, 2, 3, 4, 5, 1<<63 - 1} {
				got, err := h.View(name, player)
				want, ill := sight.View(sortsOf[name], stands(t, h, name), player)
				if !same(got, want) || fmt.Sprint(err) != fmt.Sprint(ill) {
					t.Errorf("%s: View of %d: got %v, %v; want %v, %v", name, player, got, err, want, ill)
				}
			}
		}
		sends(t, h, "few", lists...)
		ticks(t, h, "few")
	}
	for player, want := range []api.Errno{api.OK, api.ErrRange, api.ErrRange} {
		_, err := h.View("bare", player)
		tells(t, fmt.Sprint("bare: View of ", player), err, want)
	}
}

// TestViewWorked: G2, what a player does not see it is not told.
func TestViewWorked(t *testing.T) {
	w := few()
	w.Field.Ground = slices.Repeat([]int{api.Forest}, 12)
	w.Field.Ore = make([]int, 12)
	w.Units[2].Goal = 4
	h := hall.New()
	does(t, h.Create("dark", sorts(), w, 0))
	v, err := h.View("dark", 2)
	does(t, err)
	if !slices.Equal(v.Gold, []int{0, 0, 35}) || len(v.Queue) != 1 || len(v.Units) != 2 || v.Units[0].Id != 4 || v.Units[1].Id != 8 {
		t.Errorf("got %v", v)
	}
}
