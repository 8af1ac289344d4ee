package sight_test

import (
	"slices"
	"testing"

	"marchland/api"
	"marchland/plain"
	"marchland/sight"
	"marchland/world"
)

// few is an ordinary world, of which each player sees something, and not all.
func few(t *testing.T) api.World {
	w := scene(t, "..^.\n.9#~\n3...\n", own(base, 1), of(1, guard, 4), api.Unit{Kind: digger, At: 5, Life: 10, Load: 9, Task: api.Gather, Goal: 5}, of(1, bird, 3), of(2, blind, 9))
	w.Queue = []api.Job{job(1, 1, bird, 3), job(0, 0, digger, 1), job(0, 0, digger, 2), job(1, 1, base, 4)}
	right(t, sorts(), w)
	return w
}

// TestFew: A1, so that what is asked of few below is asked where all of it happens: units, jobs, Golds and ore that are shown, and some that are not.
func TestFew(t *testing.T) {
	w := few(t)
	shown{[]int{0, 1, 2, 4}, []int{5, 0, 0}, w.Field.Ore, []int{1, 2}}.hold(t, "player 0", w, 0)
	shown{[]int{0, 1, 2, 3, 4}, []int{0, 8, 0}, w.Field.Ore, []int{0, 3}}.hold(t, "player 1", w, 1)
	shown{[]int{4}, []int{0, 0, 70}, make([]int, 12), nil}.hold(t, "player 2", w, 2)
}

// fault is one thing that is wrong with few, and what is told of it.
type fault struct {
	name string
	told api.Errno
	make func(k *[]api.Kind, w *api.World)
}

func faults() []fault {
	return []fault{
		{"nine kinds", api.ErrFull, func(k *[]api.Kind, w *api.World) { *k = append(*k, api.Kind{Name: "i", Life: 1}) }},
		{"a kind without a name", api.ErrSyntax, func(k *[]api.Kind, w *api.World) { (*k)[7].Name = "" }},
		{"a kind twice", api.ErrClash, func(k *[]api.Kind, w *api.World) { (*k)[7].Name = "bird" }},
		{"Sight 13", api.ErrRange, func(k *[]api.Kind, w *api.World) { (*k)[3].Sight = 13 }},
		{"Sight below 0", api.ErrRange, func(k *[]api.Kind, w *api.World) { (*k)[4].Sight = -1 }},
		{"no kinds", api.ErrRange, func(k *[]api.Kind, w *api.World) { *k = nil }},
		{"sides", api.ErrRange, func(k *[]api.Kind, w *api.World) { w.Field.Wide = 13 }},
		{"no width", api.ErrRange, func(k *[]api.Kind, w *api.World) { w.Field.Wide = 0 }},
		{"no lists of cells", api.ErrShape, func(k *[]api.Kind, w *api.World) { w.Field.Ground, w.Field.Ore = nil, nil }},
		{"a ground that is none", api.ErrRange, func(k *[]api.Kind, w *api.World) { w.Field.Ground[1] = 4 }},
		{"ore below 0", api.ErrRange, func(k *[]api.Kind, w *api.World) { w.Field.Ore[5] = -1 }},
		{"ore in forest", api.ErrState, func(k *[]api.Kind, w *api.World) { w.Field.Ore[2] = 1 }},
		{"Turn", api.ErrRange, func(k *[]api.Kind, w *api.World) { w.Turn = -1 }},
		{"Next", api.ErrRange, func(k *[]api.Kind, w *api.World) { w.Next = 3 }},
		{"no players", api.ErrRange, func(k *[]api.Kind, w *api.World) { w.Gold = nil }},
		{"five players", api.ErrRange, func(k *[]api.Kind, w *api.World) { w.Gold = make([]int, 5) }},
		{"Gold", api.ErrRange, func(k *[]api.Kind, w *api.World) { w.Gold[2] = api.MaxNumber + 1 }},
		{"41 units", api.ErrFull, func(k *[]api.Kind, w *api.World) { w.Units = append(w.Units, make([]api.Unit, 36)...) }},
		{"an id twice", api.ErrOrder, func(k *[]api.Kind, w *api.World) { w.Units[3].Id = w.Units[2].Id }},
		{"a player that is none", api.ErrRange, func(k *[]api.Kind, w *api.World) { w.Units[4].Player = 3 }},
		{"a kind that is none", api.ErrRange, func(k *[]api.Kind, w *api.World) { w.Units[4].Kind = -1 }},
		{"no Life", api.ErrRange, func(k *[]api.Kind, w *api.World) { w.Units[0].Life = 0 }},
		{"Life beyond the kind's", api.ErrRange, func(k *[]api.Kind, w *api.World) { w.Units[0].Life = 51 }},
		{"a Load beyond Carry", api.ErrRange, func(k *[]api.Kind, w *api.World) { w.Units[2].Load = 21 }},
		{"a Task that is none", api.ErrRange, func(k *[]api.Kind, w *api.World) { w.Units[1].Task = 3 }},
		{"At is no cell", api.ErrNone, func(k *[]api.Kind, w *api.World) { w.Units[1].At = 12 }},
		{"Goal is no cell", api.ErrNone, func(k *[]api.Kind, w *api.World) { w.Units[1].Goal = -1 }},
		{"on rock", api.ErrState, func(k *[]api.Kind, w *api.World) { w.Units[3].At = 6 }},
		{"two on a cell", api.ErrState, func(k *[]api.Kind, w *api.World) { w.Units[3].At = 1 }},
		{"a Goal at rest", api.ErrState, func(k *[]api.Kind, w *api.World) { w.Units[0].Goal = 1 }},
		{"13 jobs", api.ErrFull, func(k *[]api.Kind, w *api.World) { w.Queue = slices.Repeat(w.Queue[:1], 13) }},
		{"a job of nobody", api.ErrNone, func(k *[]api.Kind, w *api.World) { w.Queue[1].Unit = 4 }},
		{"a job of another's", api.ErrState, func(k *[]api.Kind, w *api.World) { w.Queue[1].Player = 1 }},
		{"a job at one that does not train", api.ErrState, func(k *[]api.Kind, w *api.World) { w.Queue[1].Unit = idOf(2) }},
		{"a job of a kind that is none", api.ErrRange, func(k *[]api.Kind, w *api.World) { w.Queue[1].Kind = 8 }},
		{"Left 0, of the last job", api.ErrRange, func(k *[]api.Kind, w *api.World) { w.Queue[3].Left = 0 }},
	}
}

// refused asks all calls for one error, and nothing beside it, also of players and cells that are none.
func refused(t *testing.T, name string, k []api.Kind, w api.World, told api.Errno) {
	t.Helper()
	for _, player := range append([]int{0, 1, 2, 3}, noPlayers...) {
		if got, err := sight.Seen(k, w, player); got != nil || plain.Told(err) != told {
			t.Errorf("%s: Seen by %d: got %v, %v; want %v", name, player, got, err, told)
		}
		if got, err := sight.View(k, w, player); !alike(got, api.World{}) || plain.Told(err) != told {
			t.Errorf("%s: View of %d: got %v, %v; want %v", name, player, got, err, told)
		}
	}
	for _, at := range append([]int{0, 5, 11, 12}, noCells...) {
		if got, err := sight.Seers(k, w, at); got != nil || plain.Told(err) != told {
			t.Errorf("%s: Seers of %d: got %v, %v; want %v", name, at, got, err, told)
		}
	}
}

// TestWrongWorld: A1, what is wrong with a world is told ahead of a player or a cell that is none, and nothing comes with it.
func TestWrongWorld(t *testing.T) {
	for _, c := range faults() {
		k, w := sorts(), few(t)
		c.make(&k, &w)
		if err := world.Check(k, w); plain.Told(err) != c.told {
			t.Fatalf("%s: Check says %v", c.name, err)
		}
		refused(t, c.name, k, w, c.told)
	}
	refused(t, "nothing", sorts(), api.World{}, api.ErrRange)
	refused(t, "nothing at all", nil, api.World{}, api.ErrRange)
	refused(t, "no field", sorts(), api.World{Next: 1, Gold: []int{0}}, api.ErrRange)
}

// roomy is a world whose lists have something behind their length.
func roomy(w api.World) api.World {
	w.Field.Ground = append(slices.Clone(w.Field.Ground), 77, 78)[:len(w.Field.Ground)]
	w.Field.Ore = append(slices.Clone(w.Field.Ore), 77, 78)[:len(w.Field.Ore)]
	w.Gold = append(slices.Clone(w.Gold), 77, 78)[:len(w.Gold)]
	w.Units = append(slices.Clone(w.Units), api.Unit{Id: 77}, api.Unit{Id: 78})[:len(w.Units)]
	w.Queue = append(slices.Clone(w.Queue), api.Job{Left: 77}, api.Job{Left: 78})[:len(w.Queue)]
	return w
}

// whole is a world with what lies behind the length of its lists, up to two of each.
func whole(w api.World) api.World {
	w.Field.Ground, w.Field.Ore = w.Field.Ground[:len(w.Field.Ground)+2], w.Field.Ore[:len(w.Field.Ore)+2]
	w.Gold, w.Units, w.Queue = w.Gold[:len(w.Gold)+2], w.Units[:len(w.Units)+2], w.Queue[:len(w.Queue)+2]
	return w
}

// TestHandedInStays: P2, P4: a world and kinds that are handed in stay, with what lies behind, also where there is an error.
func TestHandedInStays(t *testing.T) {
	for _, wrong := range []bool{false, true} {
		w, k := roomy(few(t)), append(sorts(), api.Kind{Name: "behind"})[:8]
		if wrong {
			w.Queue[3].Left = 0
		}
		before := copied(whole(w))
		for player := -1; player <= len(w.Gold); player++ {
			sight.Seen(k, w, player)
			if v, err := sight.View(k, w, player); alike(v, w) || !wrong && 0 <= player && player < 3 && err != nil {
				t.Fatalf("wrong %v, player %d: got %v, %v", wrong, player, v, err)
			}
		}
		for at := -1; at <= len(w.Field.Ground); at++ {
			sight.Seers(k, w, at)
		}
		if !alike(whole(w), before) {
			t.Errorf("wrong %v: it became %v, and was %v", wrong, whole(w), before)
		}
		if !slices.Equal(k[:9], append(sorts(), api.Kind{Name: "behind"})) {
			t.Errorf("wrong %v: the kinds became %v", wrong, k[:9])
		}
	}
}

func fill[T any](l []T, x T) {
	l = l[:cap(l)]
	for i := range l {
		l[i] = x
	}
}

// scrawl writes into all lists of a world, and behind them.
func scrawl(w api.World) {
	fill(w.Field.Ground, -7)
	fill(w.Field.Ore, -7)
	fill(w.Gold, -7)
	fill(w.Units, api.Unit{Id: -7})
	fill(w.Queue, api.Job{Left: -7})
}

// TestViewIsFresh: P2, what is written into an answer stands in no argument and no other answer, and the other way round; also where all is seen, or nothing.
func TestViewIsFresh(t *testing.T) {
	for _, begin := range []api.World{few(t), two(t), scene(t, "99\n"), scene(t, "99\n", own(owl, 0))} {
		w := copied(begin)
		for player := range w.Gold {
			first, _ := sight.View(sorts(), w, player)
			scrawl(first)
			if !alike(w, begin) {
				t.Fatalf("the world became %v", w)
			}
			second, _ := sight.View(sorts(), w, player)
			third, _ := sight.View(sorts(), w, player)
			kept := copied(second)
			if !alike(third, kept) {
				t.Errorf("got %v, and then %v", kept, third)
			}
			scrawl(w)
			scrawl(third)
			if !alike(second, kept) {
				t.Errorf("%v became %v", kept, second)
			}
			fill(second.Field.Ground, -8)
			if slices.Contains(second.Field.Ore, -8) || slices.Contains(second.Gold, -8) {
				t.Errorf("lists of one answer share memory: %v", second)
			}
			w = copied(begin)
		}
	}
}

// TestListsAreFresh: P2, the same of Seen and Seers.
func TestListsAreFresh(t *testing.T) {
	w := few(t)
	cells, _ := sight.Seen(sorts(), w, 0)
	players, _ := sight.Seers(sorts(), w, 5)
	wantCells, wantPlayers := slices.Clone(cells), slices.Clone(players)
	moreCells, _ := sight.Seen(sorts(), w, 0)
	morePlayers, _ := sight.Seers(sorts(), w, 5)
	fill(cells, true)
	fill(players, -7)
	if !slices.Equal(moreCells, wantCells) || !slices.Equal(morePlayers, wantPlayers) || !alike(w, few(t)) {
		t.Errorf("got %v, %v; want %v, %v; the world is %v", moreCells, morePlayers, wantCells, wantPlayers, w)
	}
	cells, _ = sight.Seen(sorts(), w, 0)
	players, _ = sight.Seers(sorts(), w, 5)
	if !slices.Equal(cells, wantCells) || !slices.Equal(players, wantPlayers) {
		t.Errorf("got %v, %v; want %v, %v", cells, players, wantCells, wantPlayers)
	}
}
