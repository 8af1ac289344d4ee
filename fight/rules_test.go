package fight_test

import (
	"slices"
	"testing"

	"marchland/api"
	"marchland/fight"
	"marchland/plain"
	"marchland/world"
)

// few is an ordinary world, in which some strike, one falls, and there are jobs of it and of another one.
func few(t *testing.T) api.World {
	w := scene(t, "..^.\n.9#~\n....\n", own(base, 1, 50), foe(fighter, 4, 20), api.Unit{Kind: digger, At: 5, Life: 10, Load: 9, Task: api.Gather, Goal: 5}, foe(bird, 3, 8), of(2, own(tower, 9, 2)))
	w.Queue = []api.Job{job(2, 4, bird, 3), job(0, 0, digger, 1), job(0, 0, digger, 2), job(2, 4, base, 4)}
	right(t, sorts(), w)
	return w
}

// TestFew: B2, so that what is asked of few below is asked where all of it happens: by the fighter and the bird the tower falls, with its two jobs.
func TestFew(t *testing.T) {
	got, events, err := fight.Fight(sorts(), few(t))
	want := []api.Event{{What: 2, Unit: idOf(1), Arg: idOf(4)}, {What: 2, Unit: idOf(3), Arg: idOf(4)}, {What: 2, Unit: idOf(4), Arg: idOf(2)}, {What: 3, Unit: idOf(4)}}
	left := []api.Job{job(0, 0, digger, 1), job(0, 0, digger, 2)}
	if !slices.Equal(events, want) || !slices.Equal(got.Queue, left) || err != nil {
		t.Errorf("got %v, %v, %v; want %v, %v", got, events, err, want, left)
	}
}

// fault is one thing that is wrong with few, and what is told of it.
type fault struct {
	name string
	told api.Errno
	make func(k *[]api.Kind, w *api.World)
}

func faults() []fault {
	return []fault{
		{"nine kinds", api.ErrFull, func(k *[]api.Kind, w *api.World) { *k = append(*k, api.Kind{Name: "i", Life: 1}) }},
		{"a kind without a name", api.ErrSyntax, func(k *[]api.Kind, w *api.World) { (*k)[7].Name = "" }},
		{"a kind twice", api.ErrClash, func(k *[]api.Kind, w *api.World) { (*k)[7].Name = "bird" }},
		{"Range 13", api.ErrRange, func(k *[]api.Kind, w *api.World) { (*k)[6].Range = 13 }},
		{"Hit below 0", api.ErrRange, func(k *[]api.Kind, w *api.World) { (*k)[2].Hit = -1 }},
		{"Hit 1001", api.ErrRange, func(k *[]api.Kind, w *api.World) { (*k)[2].Hit = 1001 }},
		{"no kinds", api.ErrRange, func(k *[]api.Kind, w *api.World) { *k = nil }},
		{"sides", api.ErrRange, func(k *[]api.Kind, w *api.World) { w.Field.Wide = 13 }},
		{"no width", api.ErrRange, func(k *[]api.Kind, w *api.World) { w.Field.Wide = 0 }},
		{"no lists of cells", api.ErrShape, func(k *[]api.Kind, w *api.World) { w.Field.Ground, w.Field.Ore = nil, nil }},
		{"a ground that is none", api.ErrRange, func(k *[]api.Kind, w *api.World) { w.Field.Ground[1] = 4 }},
		{"ore below 0", api.ErrRange, func(k *[]api.Kind, w *api.World) { w.Field.Ore[5] = -1 }},
		{"ore in forest", api.ErrState, func(k *[]api.Kind, w *api.World) { w.Field.Ore[2] = 1 }},
		{"Turn", api.ErrRange, func(k *[]api.Kind, w *api.World) { w.Turn = -1 }},
		{"Next", api.ErrRange, func(k *[]api.Kind, w *api.World) { w.Next = 3 }},
		{"no players", api.ErrRange, func(k *[]api.Kind, w *api.World) { w.Gold = nil }},
		{"Gold", api.ErrRange, func(k *[]api.Kind, w *api.World) { w.Gold[2] = api.MaxNumber + 1 }},
		{"41 units", api.ErrFull, func(k *[]api.Kind, w *api.World) { w.Units = append(w.Units, make([]api.Unit, 36)...) }},
		{"an id twice", api.ErrOrder, func(k *[]api.Kind, w *api.World) { w.Units[3].Id = w.Units[2].Id }},
		{"a player that is none", api.ErrRange, func(k *[]api.Kind, w *api.World) { w.Units[4].Player = 3 }},
		{"a kind that is none", api.ErrRange, func(k *[]api.Kind, w *api.World) { w.Units[4].Kind = -1 }},
		{"no Life", api.ErrRange, func(k *[]api.Kind, w *api.World) { w.Units[0].Life = 0 }},
		{"Life beyond the kind's", api.ErrRange, func(k *[]api.Kind, w *api.World) { w.Units[0].Life = 51 }},
		{"a Load beyond Carry", api.ErrRange, func(k *[]api.Kind, w *api.World) { w.Units[2].Load = 21 }},
		{"a Task that is none", api.ErrRange, func(k *[]api.Kind, w *api.World) { w.Units[1].Task = 3 }},
		{"At is no cell", api.ErrNone, func(k *[]api.Kind, w *api.World) { w.Units[1].At = 12 }},
		{"Goal is no cell", api.ErrNone, func(k *[]api.Kind, w *api.World) { w.Units[1].Goal = -1 }},
		{"on rock", api.ErrState, func(k *[]api.Kind, w *api.World) { w.Units[3].At = 6 }},
		{"two on a cell", api.ErrState, func(k *[]api.Kind, w *api.World) { w.Units[3].At = 1 }},
		{"a Goal at rest", api.ErrState, func(k *[]api.Kind, w *api.World) { w.Units[0].Goal = 1 }},
		{"13 jobs", api.ErrFull, func(k *[]api.Kind, w *api.World) { w.Queue = slices.Repeat(w.Queue[:1], 13) }},
		{"a job of nobody", api.ErrNone, func(k *[]api.Kind, w *api.World) { w.Queue[1].Unit = 4 }},
		{"a job of another's", api.ErrState, func(k *[]api.Kind, w *api.World) { w.Queue[1].Player = 1 }},
		{"a job at one that does not train", api.ErrState, func(k *[]api.Kind, w *api.World) { w.Queue[1].Unit = idOf(2) }},
		{"a job of a kind that is none", api.ErrRange, func(k *[]api.Kind, w *api.World) { w.Queue[1].Kind = 8 }},
		{"Left 0, of one that would fall", api.ErrRange, func(k *[]api.Kind, w *api.World) { w.Queue[3].Left = 0 }},
	}
}

// refused asks all calls for one error, and nothing beside it.
func refused(t *testing.T, name string, k []api.Kind, w api.World, told api.Errno) {
	t.Helper()
	if got, events, err := fight.Fight(k, w); !alike(got, api.World{}) || events != nil || plain.Told(err) != told {
		t.Errorf("%s: Fight: got %v, %v, %v; want %v", name, got, events, err, told)
	}
	for _, i := range append([]int{0, 1, 4, 5}, outside...) {
		if got, err := fight.Target(k, w, i); got != 0 || plain.Told(err) != told {
			t.Errorf("%s: Target of %d: got %d, %v; want %v", name, i, got, err, told)
		}
	}
}

// TestWrongWorld: B1, B2: what is wrong with a world is told ahead of an index that is none, and nothing comes with it.
func TestWrongWorld(t *testing.T) {
	for _, c := range faults() {
		k, w := sorts(), few(t)
		c.make(&k, &w)
		if err := world.Check(k, w); plain.Told(err) != c.told {
			t.Fatalf("%s: Check says %v", c.name, err)
		}
		refused(t, c.name, k, w, c.told)
	}
	refused(t, "nothing", sorts(), api.World{}, api.ErrRange)
	refused(t, "nothing at all", nil, api.World{}, api.ErrRange)
	refused(t, "no field", sorts(), api.World{Next: 1, Gold: []int{0}}, api.ErrRange)
}

// roomy is a world whose lists have something behind their length.
func roomy(w api.World) api.World {
	w.Field.Ground = append(slices.Clone(w.Field.Ground), 77, 78)[:len(w.Field.Ground)]
	w.Field.Ore = append(slices.Clone(w.Field.Ore), 77, 78)[:len(w.Field.Ore)]
	w.Gold = append(slices.Clone(w.Gold), 77, 78)[:len(w.Gold)]
	w.Units = append(slices.Clone(w.Units), api.Unit{Id: 77}, api.Unit{Id: 78})[:len(w.Units)]
	w.Queue = append(slices.Clone(w.Queue), api.Job{Left: 77}, api.Job{Left: 78})[:len(w.Queue)]
	return w
}

// whole is a world with what lies behind the length of its lists, up to two of each.
func whole(w api.World) api.World {
	w.Field.Ground, w.Field.Ore = w.Field.Ground[:len(w.Field.Ground)+2], w.Field.Ore[:len(w.Field.Ore)+2]
	w.Gold, w.Units, w.Queue = w.Gold[:len(w.Gold)+2], w.Units[:len(w.Units)+2], w.Queue[:len(w.Queue)+2]
	return w
}

// TestHandedInStays: P2, P4: a world and kinds that are handed in stay, with what lies behind, also where there is an error.
func TestHandedInStays(t *testing.T) {
	for _, wrong := range []bool{false, true} {
		w, k := roomy(few(t)), append(sorts(), api.Kind{Name: "behind"})[:8]
		want := 4
		if wrong {
			w.Queue[3].Left, want = 0, 0
		}
		before := copied(whole(w))
		for i := -1; i <= len(w.Units); i++ {
			fight.Target(k, w, i)
		}
		if _, events, _ := fight.Fight(k, w); len(events) != want {
			t.Fatalf("wrong %v: got %v", wrong, events)
		}
		if !alike(whole(w), before) {
			t.Errorf("wrong %v: it became %v, and was %v", wrong, whole(w), before)
		}
		if !slices.Equal(k[:9], append(sorts(), api.Kind{Name: "behind"})) {
			t.Errorf("wrong %v: the kinds became %v", wrong, k[:9])
		}
	}
}

func fill[T any](l []T, x T) {
	l = l[:cap(l)]
	for i := range l {
		l[i] = x
	}
}

// scrawl writes into all lists of a world, and behind them.
func scrawl(w api.World) {
	fill(w.Field.Ground, -7)
	fill(w.Field.Ore, -7)
	fill(w.Gold, -7)
	fill(w.Units, api.Unit{Id: -7})
	fill(w.Queue, api.Job{Left: -7})
}

// TestAnswersAreFresh: P2, what is written into an answer stands in no argument and no other answer, and the other way round; also where nobody strikes.
func TestAnswersAreFresh(t *testing.T) {
	for _, begin := range []api.World{few(t), scene(t, plains(3, 1)), scene(t, plains(3, 1), own(tower, 0, 5))} {
		w := copied(begin)
		first, events, _ := fight.Fight(sorts(), w)
		scrawl(first)
		fill(events, api.Event{What: -7})
		if !alike(w, begin) {
			t.Fatalf("the world became %v", w)
		}
		second, told, _ := fight.Fight(sorts(), w)
		third, others, _ := fight.Fight(sorts(), w)
		kept, list := copied(second), slices.Clone(told)
		if !alike(third, kept) || !slices.Equal(others, list) {
			t.Errorf("got %v, %v, and then %v, %v", kept, list, third, others)
		}
		scrawl(w)
		scrawl(third)
		fill(others, api.Event{What: -7})
		if !alike(second, kept) || !slices.Equal(told, list) {
			t.Errorf("%v, %v became %v, %v", kept, list, second, told)
		}
		fill(second.Field.Ground, -8)
		if slices.Contains(second.Field.Ore, -8) || slices.Contains(second.Gold, -8) {
			t.Errorf("lists of one answer share memory: %v", second)
		}
	}
}
