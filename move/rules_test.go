package move_test

import (
	"math"
	"slices"
	"testing"

	"marchland/api"
	"marchland/move"
	"marchland/plain"
	"marchland/world"
)

// few is an ordinary world, in which some go, with jobs.
func few(t *testing.T) api.World {
	w := scene(t, "..^.\n.9#~\n....\n", resting(base, 0), of(1, marching(fighter, 11, 8)), gathering(digger, 5, 5, 20), of(1, marching(bird, 3, 0)), of(2, resting(wagon, 2)))
	w.Queue = []api.Job{{Player: 2, Unit: idOf(4), Kind: bird, Left: 3}, {Player: 0, Unit: idOf(0), Kind: digger, Left: 1}}
	return w
}

// indices are those of few, and others.
var indices = []int{0, 1, 2, 3, 4, 5, 6, -1, -2, 40, idOf(2), 11, 1 << 32, 1<<32 + 1, math.MaxInt, math.MinInt}

// TestWishNone: V1, an index that is none.
func TestWishNone(t *testing.T) {
	for _, i := range indices {
		got, err := move.Wish(sorts(), few(t), i)
		if is := i >= 0 && i < 5; is != (err == nil) || !is && (got != 0 || plain.Told(err) != api.ErrNone) {
			t.Errorf("index %d: got %d, %v", i, got, err)
		}
	}
	for _, i := range []int{0, 1, -1, math.MaxInt, math.MinInt} {
		if got, err := move.Wish(sorts(), scene(t, ".\n"), i); got != 0 || plain.Told(err) != api.ErrNone {
			t.Errorf("of nobody, index %d: got %d, %v", i, got, err)
		}
	}
}

// fault is one thing that is wrong with few, and what is told of it.
type fault struct {
	name string
	told api.Errno
	make func(k *[]api.Kind, w *api.World)
}

func faults() []fault {
	return []fault{
		{"nine kinds", api.ErrFull, func(k *[]api.Kind, w *api.World) { *k = append(*k, api.Kind{Name: "i", Life: 1}) }},
		{"a kind without a name", api.ErrSyntax, func(k *[]api.Kind, w *api.World) { (*k)[7].Name = "" }},
		{"a kind twice", api.ErrClash, func(k *[]api.Kind, w *api.World) { (*k)[7].Name = "bird" }},
		{"Speed 5", api.ErrRange, func(k *[]api.Kind, w *api.World) { (*k)[6].Speed = 5 }},
		{"no kinds", api.ErrRange, func(k *[]api.Kind, w *api.World) { *k = nil }},
		{"sides", api.ErrRange, func(k *[]api.Kind, w *api.World) { w.Field.Wide = 13 }},
		{"no lists of cells", api.ErrShape, func(k *[]api.Kind, w *api.World) { w.Field.Ground, w.Field.Ore = nil, nil }},
		{"a ground that is none", api.ErrRange, func(k *[]api.Kind, w *api.World) { w.Field.Ground[1] = 4 }},
		{"ore in forest", api.ErrState, func(k *[]api.Kind, w *api.World) { w.Field.Ore[2] = 1 }},
		{"Turn", api.ErrRange, func(k *[]api.Kind, w *api.World) { w.Turn = -1 }},
		{"Next", api.ErrRange, func(k *[]api.Kind, w *api.World) { w.Next = 3 }},
		{"no players", api.ErrRange, func(k *[]api.Kind, w *api.World) { w.Gold = nil }},
		{"Gold", api.ErrRange, func(k *[]api.Kind, w *api.World) { w.Gold[2] = api.MaxNumber + 1 }},
		{"41 units", api.ErrFull, func(k *[]api.Kind, w *api.World) { w.Units = append(w.Units, make([]api.Unit, 36)...) }},
		{"an id twice", api.ErrOrder, func(k *[]api.Kind, w *api.World) { w.Units[3].Id = w.Units[2].Id }},
		{"a player that is none", api.ErrRange, func(k *[]api.Kind, w *api.World) { w.Units[4].Player = 3 }},
		{"a kind that is none", api.ErrRange, func(k *[]api.Kind, w *api.World) { w.Units[4].Kind = -1 }},
		{"no Life", api.ErrRange, func(k *[]api.Kind, w *api.World) { w.Units[0].Life = 0 }},
		{"a Load beyond Carry", api.ErrRange, func(k *[]api.Kind, w *api.World) { w.Units[2].Load = 21 }},
		{"a Task that is none", api.ErrRange, func(k *[]api.Kind, w *api.World) { w.Units[1].Task = 3 }},
		{"At is no cell", api.ErrNone, func(k *[]api.Kind, w *api.World) { w.Units[1].At = 12 }},
		{"Goal is no cell", api.ErrNone, func(k *[]api.Kind, w *api.World) { w.Units[1].Goal = -1 }},
		{"on rock", api.ErrState, func(k *[]api.Kind, w *api.World) { w.Units[3].At = 6 }},
		{"two on a cell", api.ErrState, func(k *[]api.Kind, w *api.World) { w.Units[3].At = 0 }},
		{"a Goal at rest", api.ErrState, func(k *[]api.Kind, w *api.World) { w.Units[0].Goal = 1 }},
		{"13 jobs", api.ErrFull, func(k *[]api.Kind, w *api.World) { w.Queue = slices.Repeat(w.Queue[:1], 13) }},
		{"a job of nobody", api.ErrNone, func(k *[]api.Kind, w *api.World) { w.Queue[1].Unit = 4 }},
		{"a job of another's", api.ErrState, func(k *[]api.Kind, w *api.World) { w.Queue[1].Player = 1 }},
		{"Left 0", api.ErrRange, func(k *[]api.Kind, w *api.World) { w.Queue[0].Left = 0 }},
	}
}

// TestWrongWorld: V1, V2: what is wrong with a world is told ahead of an index that is none, and nothing comes with it.
func TestWrongWorld(t *testing.T) {
	for _, c := range faults() {
		k, w := sorts(), few(t)
		c.make(&k, &w)
		if err := world.Check(k, w); plain.Told(err) != c.told {
			t.Fatalf("%s: Check says %v", c.name, err)
		}
		if got, events, err := move.Move(k, w); !alike(got, api.World{}) || events != nil || plain.Told(err) != c.told {
			t.Errorf("%s: Move: got %v, %v, %v; want %v", c.name, got, events, err, c.told)
		}
		for _, i := range indices {
			if got, err := move.Wish(k, w, i); got != 0 || plain.Told(err) != c.told {
				t.Errorf("%s: Wish of %d: got %d, %v; want %v", c.name, i, got, err, c.told)
			}
		}
	}
	for _, w := range []api.World{{}, {Next: 1, Gold: []int{0}}} {
		if got, events, err := move.Move(sorts(), w); !alike(got, api.World{}) || events != nil || plain.Told(err) != api.ErrRange {
			t.Errorf("nothing: got %v, %v, %v", got, events, err)
		}
		if got, err := move.Wish(sorts(), w, 0); got != 0 || plain.Told(err) != api.ErrRange {
			t.Errorf("nothing: got %d, %v", got, err)
		}
	}
}

// roomy is a world whose lists have something behind their length.
func roomy(w api.World) api.World {
	w.Field.Ground = append(slices.Clone(w.Field.Ground), 77, 78)[:len(w.Field.Ground)]
	w.Field.Ore = append(slices.Clone(w.Field.Ore), 77, 78)[:len(w.Field.Ore)]
	w.Gold = append(slices.Clone(w.Gold), 77, 78)[:len(w.Gold)]
	w.Units = append(slices.Clone(w.Units), api.Unit{Id: 77}, api.Unit{Id: 78})[:len(w.Units)]
	w.Queue = append(slices.Clone(w.Queue), api.Job{Left: 77}, api.Job{Left: 78})[:len(w.Queue)]
	return w
}

// whole is a world with what lies behind the length of its lists, up to two of each.
func whole(w api.World) api.World {
	w.Field.Ground, w.Field.Ore = w.Field.Ground[:len(w.Field.Ground)+2], w.Field.Ore[:len(w.Field.Ore)+2]
	w.Gold, w.Units, w.Queue = w.Gold[:len(w.Gold)+2], w.Units[:len(w.Units)+2], w.Queue[:len(w.Queue)+2]
	return w
}

// TestHandedInStays: P2, P4: a world and kinds that are handed in stay, with what lies behind, also where there is an error.
func TestHandedInStays(t *testing.T) {
	for _, wrong := range []bool{false, true} {
		w, k := roomy(few(t)), append(sorts(), api.Kind{Name: "behind"})[:8]
		if wrong {
			w.Queue[1].Left = 0
		}
		before := copied(whole(w))
		_, events, err := move.Move(k, w)
		if wrong == (err == nil) || wrong == (len(events) > 0) {
			t.Fatalf("wrong %v: got %v, %v", wrong, events, err)
		}
		for _, i := range indices {
			move.Wish(k, w, i)
		}
		if !alike(whole(w), before) {
			t.Errorf("wrong %v: it became %v, and was %v", wrong, whole(w), before)
		}
		if !slices.Equal(k[:9], append(sorts(), api.Kind{Name: "behind"})) {
			t.Errorf("wrong %v: the kinds became %v", wrong, k[:9])
		}
	}
}

func fill[T any](l []T, x T) {
	l = l[:cap(l)]
	for i := range l {
		l[i] = x
	}
}

// scrawl writes into all lists of a world, and behind them.
func scrawl(w api.World) {
	fill(w.Field.Ground, -7)
	fill(w.Field.Ore, -7)
	fill(w.Gold, -7)
	fill(w.Units, api.Unit{Id: -7})
	fill(w.Queue, api.Job{Left: -7})
}

// TestAnswersAreFresh: P2, what is written into an answer stands in no argument and no other answer, and the other way round.
func TestAnswersAreFresh(t *testing.T) {
	w := few(t)
	first, events, _ := move.Move(sorts(), w)
	scrawl(first)
	fill(events, api.Event{What: -7})
	if !alike(w, few(t)) {
		t.Fatalf("the world became %v", w)
	}
	second, told, _ := move.Move(sorts(), w)
	third, others, _ := move.Move(sorts(), w)
	kept, list := copied(second), slices.Clone(told)
	if !alike(third, kept) || !slices.Equal(others, list) {
		t.Errorf("got %v, %v, and then %v, %v", kept, list, third, others)
	}
	scrawl(w)
	scrawl(third)
	fill(others, api.Event{What: -7})
	if !alike(second, kept) || !slices.Equal(told, list) {
		t.Errorf("%v, %v became %v, %v", kept, list, second, told)
	}
	fill(second.Field.Ground, -8)
	if slices.Contains(second.Field.Ore, -8) || slices.Contains(second.Gold, -8) {
		t.Errorf("lists of one answer share memory: %v", second)
	}
}
