package turn_test

import (
	"testing"

	"marchland/api"
	"marchland/plain"
	"marchland/turn"
)

// idle are so many turns without orders.
func idle(many int) [][]api.Order { return make([][]api.Order, many) }

// TestPlayNone: T2, of no turns nothing comes, however late it is.
func TestPlayNone(t *testing.T) {
	for _, turns := range [][][]api.Order{nil, {}} {
		for _, w := range []api.World{scene(t, "...\n"), few(t)} {
			for _, n := range []int{0, 6, api.MaxNumber} {
				w.Turn = n
				if got, err := turn.Play(sorts(), w, turns); !alike(got, w) || err != nil {
					t.Errorf("%v: got %v, %v", w, got, err)
				}
			}
		}
	}
}

// TestPlayOne: T2, of one turn what Step gives.
func TestPlayOne(t *testing.T) {
	w := few(t)
	for _, l := range [][]api.Order{nil, ordinary()} {
		want, events, err := turn.Step(sorts(), w, l)
		if len(events) < 5 || err != nil {
			t.Fatalf("%v: Step gives %v, %v", l, events, err)
		}
		if got, err := turn.Play(sorts(), w, [][]api.Order{l}); !alike(got, want) || err != nil {
			t.Errorf("%v: got %v, %v; want %v", l, got, err, want)
		}
	}
}

// TestPlayGathers: T2, turn by turn: a digger that walks three cells, takes twice, and brings 20 each five turns, until there is no more.
func TestPlayGathers(t *testing.T) {
	w := scene(t, "....9\n", resting(base, 0), resting(digger, 1))
	for _, c := range []struct{ turns, at, load, ore, gold int }{
		{1, 3, 0, 90, 100}, {2, 4, 10, 80, 100}, {3, 4, 20, 70, 100}, {4, 2, 20, 70, 100}, {5, 1, 0, 70, 120},
		{6, 3, 0, 70, 120}, {10, 1, 0, 50, 140}, {15, 1, 0, 30, 160}, {20, 1, 0, 10, 180},
		{22, 4, 10, 0, 180}, {23, 2, 10, 0, 180}, {24, 1, 0, 0, 190}, {25, 1, 0, 0, 190}, {api.MaxTurns, 1, 0, 0, 190},
	} {
		turns := idle(c.turns)
		turns[0] = []api.Order{gather(1, 4)}
		want := copied(w)
		want.Turn += c.turns
		want.Gold[0], want.Field.Ore[4] = c.gold, c.ore
		want.Units[1] = api.Unit{Id: idOf(1), Kind: digger, At: c.at, Life: 3, Load: c.load, Task: api.Gather, Goal: 4}
		if got, err := turn.Play(sorts(), w, turns); !alike(got, want) || err != nil {
			t.Errorf("%d turns: got %v, %v; want %v", c.turns, got, err, want)
		}
	}
}

// TestPlayOrders: T2, each turn has its own orders, and of them the last one of each turn counts.
func TestPlayOrders(t *testing.T) {
	w := scene(t, ".......\n", resting(digger, 0))
	for _, c := range []struct {
		name  string
		turns [][]api.Order
		want  api.Unit
	}{
		{"away", [][]api.Order{{march(0, 6)}}, marching(digger, 2, 6)},
		{"away, and on", [][]api.Order{{march(0, 6)}, nil}, marching(digger, 4, 6)},
		{"away, and there", [][]api.Order{{march(0, 6)}, nil, nil}, resting(digger, 6)},
		{"away and back in one turn", [][]api.Order{{march(0, 6), march(0, 0)}}, resting(digger, 0)},
		{"away and back in two", [][]api.Order{{march(0, 6)}, {march(0, 0)}}, resting(digger, 0)},
		{"back and away in two", [][]api.Order{{march(0, 0)}, {march(0, 6)}}, marching(digger, 2, 6)},
		{"away, and stop", [][]api.Order{{march(0, 6)}, {stop(0)}, nil}, resting(digger, 2)},
		{"away, and what is refused", [][]api.Order{{march(0, 6)}, {march(0, 7)}}, marching(digger, 4, 6)},
	} {
		got, err := turn.Play(sorts(), w, c.turns)
		c.want.Id, c.want.Life = idOf(0), 3
		if err != nil || got.Units[0] != c.want || got.Turn != 6+len(c.turns) {
			t.Errorf("%s: got %v, %v; want %v", c.name, got, err, c.want)
		}
	}
}

// TestPlayTrains: T2, who has come may be asked in the next turn, and what was brought may be spent.
func TestPlayTrains(t *testing.T) {
	w := scene(t, "....\n", resting(base, 0))
	w.Gold[0] = 20
	newest := api.Order{Unit: 90, What: api.DoMarch, Arg: 3}
	got, err := turn.Play(sorts(), w, [][]api.Order{{train(0, digger), train(0, digger), train(0, digger), newest}, {newest}, {newest}, {newest}, nil})
	want := copied(w)
	want.Turn, want.Next, want.Gold[0] = 11, 92, 0
	want.Units = append(want.Units, api.Unit{Id: 90, Kind: digger, At: 3, Life: 10}, api.Unit{Id: 91, Kind: digger, At: 1, Life: 10})
	if !alike(got, want) || err != nil {
		t.Errorf("got %v, %v; want %v", got, err, want)
	}
}

// TestPlayMany: T2, MaxTurns, one more, and many more; what stands in them is not asked then.
func TestPlayMany(t *testing.T) {
	w := scene(t, "...\n", resting(digger, 0))
	if got, err := turn.Play(sorts(), w, idle(api.MaxTurns)); got.Turn != 206 || err != nil {
		t.Errorf("MaxTurns: got %v, %v", got, err)
	}
	if got, err := turn.Play(sorts(), w, idle(api.MaxTurns-1)); got.Turn != 205 || err != nil {
		t.Errorf("one less: got %v, %v", got, err)
	}
	for _, many := range []int{201, 202, 1000, 1 << 16} {
		turns := idle(many)
		playRefused(t, "many", w, turns, api.ErrFull)
		turns[0] = badOrder()
		playRefused(t, "many, and a wrong order", w, turns, api.ErrFull)
	}
}

func playRefused(t *testing.T, name string, w api.World, turns [][]api.Order, told api.Errno) {
	t.Helper()
	if got, err := turn.Play(sorts(), w, turns); !alike(got, api.World{}) || plain.Told(err) != told {
		t.Errorf("%s: got %v, %v; want %v", name, got, err, told)
	}
}

// badOrder are orders of which one is ErrRange; tooMany are ErrFull.
func badOrder() []api.Order { return []api.Order{march(0, 1), {Player: 4}} }
func tooMany() []api.Order  { return make([]api.Order, api.MaxOrders+1) }

// TestPlayWrongTurn: T2, the first error of a Step, wherever it is, and nothing beside it.
func TestPlayWrongTurn(t *testing.T) {
	w := scene(t, "...\n", resting(digger, 0))
	for _, many := range []int{1, 2, 3, api.MaxTurns} {
		for _, at := range []int{0, many / 2, many - 1} {
			turns := idle(many)
			turns[at] = badOrder()
			playRefused(t, "a wrong order", w, turns, api.ErrRange)
			turns[at] = tooMany()
			playRefused(t, "too many orders", w, turns, api.ErrFull)
		}
	}
	playRefused(t, "both", w, [][]api.Order{nil, badOrder(), nil, tooMany(), nil}, api.ErrRange)
	playRefused(t, "both, the other way round", w, [][]api.Order{nil, tooMany(), badOrder(), nil}, api.ErrFull)
}

// TestPlayLate: T2, as far as Turn goes: then ErrFull, ahead of what is wrong with the orders of that turn, behind what is wrong with those ahead.
func TestPlayLate(t *testing.T) {
	w := scene(t, "...\n", resting(digger, 0))
	w.Turn = api.MaxNumber - 2
	if got, err := turn.Play(sorts(), w, idle(2)); got.Turn != api.MaxNumber || err != nil {
		t.Errorf("two turns: got %v, %v", got, err)
	}
	playRefused(t, "three turns", w, idle(3), api.ErrFull)
	playRefused(t, "three turns, the last one wrong", w, [][]api.Order{nil, nil, badOrder()}, api.ErrFull)
	playRefused(t, "three turns, the second one wrong", w, [][]api.Order{nil, badOrder(), nil}, api.ErrRange)
	w.Turn = api.MaxNumber
	playRefused(t, "one turn", w, idle(1), api.ErrFull)
	playRefused(t, "one wrong turn", w, [][]api.Order{badOrder()}, api.ErrFull)
}
