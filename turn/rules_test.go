package turn_test

import (
	"math"
	"slices"
	"testing"

	"marchland/api"
	"marchland/plain"
	"marchland/turn"
	"marchland/world"
)

// few is an ordinary world, in which there is something of all that happens in a turn.
func few(t *testing.T) api.World {
	t.Helper()
	w := scene(t, "..^.\n.9#~\n....\n", resting(base, 1), of(1, marching(fighter, 11, 8)), gathering(digger, 5, 5, 9), of(1, marching(bird, 3, 0)), of(2, resting(wagon, 9)))
	w.Queue = []api.Job{{Player: 2, Unit: idOf(4), Kind: bird, Left: 3}, job(0, digger, 1), job(0, digger, 2), {Player: 2, Unit: idOf(4), Kind: base, Left: 4}}
	right(t, sorts(), w)
	return w
}

// ordinary are orders for few, of each kind, and some that are refused.
func ordinary() []api.Order {
	return []api.Order{by(2, train(4, quick)), train(0, fighter), march(2, 6), by(1, march(3, 7)), by(1, stop(1)), by(2, gather(4, 5)), by(1, march(1, 10)), stop(4), train(0, 8)}
}

// TestFew: T1, T2, so that what is asked of few below is asked where all of it happens.
func TestFew(t *testing.T) {
	if _, events, err := turn.Step(sorts(), few(t), nil); err != nil || !slices.Equal(events, []api.Event{
		came(0), moved(1, 10), moved(3, 2), took(2, 10), brought(2, 19), struck(1, 2), struck(3, 0), fell(0), fell(2),
	}) {
		t.Errorf("Step: got %v, %v", events, err)
	}
	w, refused, err := turn.Give(sorts(), few(t), ordinary())
	if err != nil || !slices.Equal(refused, []int{1, 2, 3}) || len(w.Queue) != 6 || w.Gold[0] != 80 || w.Units[4].Task != api.Gather {
		t.Errorf("Give: got %v, %v, %v", w, refused, err)
	}
}

// fault is one thing that is wrong with few, and what is told of it.
type fault struct {
	name string
	told api.Errno
	make func(k *[]api.Kind, w *api.World)
}

func faults() []fault {
	return []fault{
		{"nine kinds", api.ErrFull, func(k *[]api.Kind, w *api.World) { *k = append(*k, api.Kind{Name: "i", Life: 1}) }},
		{"a kind without a name", api.ErrSyntax, func(k *[]api.Kind, w *api.World) { (*k)[7].Name = "" }},
		{"a kind twice", api.ErrClash, func(k *[]api.Kind, w *api.World) { (*k)[7].Name = "bird" }},
		{"a Price below 0", api.ErrRange, func(k *[]api.Kind, w *api.World) { (*k)[3].Price = -1 }},
		{"Turns 1001", api.ErrRange, func(k *[]api.Kind, w *api.World) { (*k)[3].Turns = 1001 }},
		{"no kinds", api.ErrRange, func(k *[]api.Kind, w *api.World) { *k = nil }},
		{"sides", api.ErrRange, func(k *[]api.Kind, w *api.World) { w.Field.Wide = 13 }},
		{"no lists of cells", api.ErrShape, func(k *[]api.Kind, w *api.World) { w.Field.Ground, w.Field.Ore = nil, nil }},
		{"a ground that is none", api.ErrRange, func(k *[]api.Kind, w *api.World) { w.Field.Ground[1] = 4 }},
		{"too much ore", api.ErrRange, func(k *[]api.Kind, w *api.World) { w.Field.Ore[5] = api.MaxNumber + 1 }},
		{"ore in forest", api.ErrState, func(k *[]api.Kind, w *api.World) { w.Field.Ore[2] = 1 }},
		{"a Turn below 0", api.ErrRange, func(k *[]api.Kind, w *api.World) { w.Turn = -1 }},
		{"a Turn beyond MaxNumber", api.ErrRange, func(k *[]api.Kind, w *api.World) { w.Turn = api.MaxNumber + 1 }},
		{"the greatest Turn", api.ErrRange, func(k *[]api.Kind, w *api.World) { w.Turn = math.MaxInt }},
		{"Next", api.ErrRange, func(k *[]api.Kind, w *api.World) { w.Next = 3 }},
		{"no players", api.ErrRange, func(k *[]api.Kind, w *api.World) { w.Gold = nil }},
		{"five players", api.ErrRange, func(k *[]api.Kind, w *api.World) { w.Gold = make([]int, 5) }},
		{"Gold", api.ErrRange, func(k *[]api.Kind, w *api.World) { w.Gold[2] = api.MaxNumber + 1 }},
		{"41 units", api.ErrFull, func(k *[]api.Kind, w *api.World) { w.Units = append(w.Units, make([]api.Unit, 36)...) }},
		{"an id twice", api.ErrOrder, func(k *[]api.Kind, w *api.World) { w.Units[3].Id = w.Units[2].Id }},
		{"a player that is none", api.ErrRange, func(k *[]api.Kind, w *api.World) { w.Units[4].Player = 3 }},
		{"a kind that is none", api.ErrRange, func(k *[]api.Kind, w *api.World) { w.Units[4].Kind = -1 }},
		{"no Life", api.ErrRange, func(k *[]api.Kind, w *api.World) { w.Units[0].Life = 0 }},
		{"a Load beyond Carry", api.ErrRange, func(k *[]api.Kind, w *api.World) { w.Units[2].Load = 21 }},
		{"a Task that is none", api.ErrRange, func(k *[]api.Kind, w *api.World) { w.Units[1].Task = 3 }},
		{"At is no cell", api.ErrNone, func(k *[]api.Kind, w *api.World) { w.Units[1].At = 12 }},
		{"Goal is no cell", api.ErrNone, func(k *[]api.Kind, w *api.World) { w.Units[1].Goal = -1 }},
		{"on rock", api.ErrState, func(k *[]api.Kind, w *api.World) { w.Units[3].At = 6 }},
		{"two on a cell", api.ErrState, func(k *[]api.Kind, w *api.World) { w.Units[3].At = 1 }},
		{"a Goal at rest", api.ErrState, func(k *[]api.Kind, w *api.World) { w.Units[0].Goal = 1 }},
		{"13 jobs", api.ErrFull, func(k *[]api.Kind, w *api.World) { w.Queue = slices.Repeat(w.Queue[:1], 13) }},
		{"a job of nobody", api.ErrNone, func(k *[]api.Kind, w *api.World) { w.Queue[1].Unit = 4 }},
		{"a job of another's", api.ErrState, func(k *[]api.Kind, w *api.World) { w.Queue[1].Player = 1 }},
		{"a job at one that does not train", api.ErrState, func(k *[]api.Kind, w *api.World) { w.Queue[1].Unit = idOf(2) }},
		{"a job of a kind that is none", api.ErrRange, func(k *[]api.Kind, w *api.World) { w.Queue[1].Kind = 8 }},
		{"Left 0, of the last job", api.ErrRange, func(k *[]api.Kind, w *api.World) { w.Queue[3].Left = 0 }},
	}
}

// noGive asks for one error, and nothing beside it; noStep and noPlay likewise.
func noGive(t *testing.T, name string, k []api.Kind, w api.World, l []api.Order, told api.Errno) {
	t.Helper()
	if got, refused, err := turn.Give(k, w, l); !alike(got, api.World{}) || refused != nil || plain.Told(err) != told {
		t.Errorf("%s: Give: got %v, %v, %v; want %v", name, got, refused, err, told)
	}
}

func noStep(t *testing.T, name string, k []api.Kind, w api.World, l []api.Order, told api.Errno) {
	t.Helper()
	if got, events, err := turn.Step(k, w, l); !alike(got, api.World{}) || events != nil || plain.Told(err) != told {
		t.Errorf("%s: Step: got %v, %v, %v; want %v", name, got, events, err, told)
	}
}

func noPlay(t *testing.T, name string, k []api.Kind, w api.World, turns [][]api.Order, told api.Errno) {
	t.Helper()
	if got, err := turn.Play(k, w, turns); !alike(got, api.World{}) || plain.Told(err) != told {
		t.Errorf("%s: Play: got %v, %v; want %v", name, got, err, told)
	}
}

// noneOfAll asks all calls for one error, whatever is wrong beside it with orders and turns.
func noneOfAll(t *testing.T, name string, k []api.Kind, w api.World, told api.Errno) {
	t.Helper()
	for _, l := range [][]api.Order{nil, ordinary(), badOrder(), tooMany()} {
		noGive(t, name, k, w, l, told)
		noStep(t, name, k, w, l, told)
		noPlay(t, name, k, w, [][]api.Order{l}, told)
		noPlay(t, name, k, w, [][]api.Order{nil, l, nil}, told)
	}
	noPlay(t, name, k, w, nil, told)
	noPlay(t, name, k, w, idle(api.MaxTurns+1), told)
}

// TestWrongWorld: T1, T2, what is wrong with a world is told ahead of all, and nothing comes with it; also where its Turn is MaxNumber.
func TestWrongWorld(t *testing.T) {
	for _, c := range faults() {
		for _, n := range []int{6, api.MaxNumber} {
			k, w := sorts(), few(t)
			w.Turn = n
			c.make(&k, &w)
			if err := world.Check(k, w); plain.Told(err) != c.told {
				t.Fatalf("%s: Check says %v", c.name, err)
			}
			noneOfAll(t, c.name, k, w, c.told)
		}
	}
	noneOfAll(t, "nothing", sorts(), api.World{}, api.ErrRange)
	noneOfAll(t, "nothing at all", nil, api.World{}, api.ErrRange)
	noneOfAll(t, "no field", sorts(), api.World{Next: 1, Gold: []int{0}}, api.ErrRange)
}

// TestWrongOrders: T1, T2, Last's errors, and nothing comes with them.
func TestWrongOrders(t *testing.T) {
	good := ordinary()
	for _, c := range []struct {
		name string
		l    []api.Order
		told api.Errno
	}{
		{"61 orders", tooMany(), api.ErrFull},
		{"61 orders, the last one wrong", append(make([]api.Order, 60), badOrder()...), api.ErrFull},
		{"a player below 0", []api.Order{by(-1, stop(0))}, api.ErrRange},
		{"a player that cannot be", []api.Order{by(4, stop(0))}, api.ErrRange},
		{"a unit below 0", []api.Order{{Unit: -1}}, api.ErrRange},
		{"a unit beyond MaxNumber", []api.Order{{Unit: api.MaxNumber + 1}}, api.ErrRange},
		{"What below 0", []api.Order{{Unit: idOf(0), What: -1}}, api.ErrRange},
		{"What is none", []api.Order{{Unit: idOf(0), What: 4}}, api.ErrRange},
		{"an Arg below 0, of a march", []api.Order{march(2, -1)}, api.ErrRange},
		{"an Arg below 0, of gathering", []api.Order{gather(2, -1)}, api.ErrRange},
		{"an Arg below 0, of training", []api.Order{train(0, -1)}, api.ErrRange},
		{"an Arg beyond MaxNumber", []api.Order{march(2, api.MaxNumber+1)}, api.ErrRange},
		{"the greatest Arg", []api.Order{train(0, math.MaxInt)}, api.ErrRange},
		{"the least Arg", []api.Order{gather(2, math.MinInt)}, api.ErrRange},
		{"stop with an Arg", []api.Order{{Unit: idOf(0), Arg: 1}}, api.ErrRange},
		{"wrong, behind right ones", append(slices.Clone(good), march(2, -1)), api.ErrRange},
		{"wrong, ahead of right ones", append([]api.Order{march(2, -1)}, good...), api.ErrRange},
		{"wrong, though there is a later one", []api.Order{march(2, -1), march(2, 4)}, api.ErrRange},
	} {
		w := few(t)
		noGive(t, c.name, sorts(), w, c.l, c.told)
		noStep(t, c.name, sorts(), w, c.l, c.told)
		noPlay(t, c.name, sorts(), w, [][]api.Order{c.l}, c.told)
		noPlay(t, c.name, sorts(), w, [][]api.Order{good, c.l, good}, c.told)
		w.Turn = api.MaxNumber
		noGive(t, c.name, sorts(), w, c.l, c.told)
		noStep(t, c.name, sorts(), w, c.l, api.ErrFull)
		noPlay(t, c.name, sorts(), w, [][]api.Order{c.l}, api.ErrFull)
		noPlay(t, c.name, sorts(), w, append(idle(api.MaxTurns), c.l), api.ErrFull)
	}
}

// roomy is a world whose lists have something behind their length.
func roomy(w api.World) api.World {
	w.Field.Ground = append(slices.Clone(w.Field.Ground), 77, 78)[:len(w.Field.Ground)]
	w.Field.Ore = append(slices.Clone(w.Field.Ore), 77, 78)[:len(w.Field.Ore)]
	w.Gold = append(slices.Clone(w.Gold), 77, 78)[:len(w.Gold)]
	w.Units = append(slices.Clone(w.Units), api.Unit{Id: 77}, api.Unit{Id: 78})[:len(w.Units)]
	w.Queue = append(slices.Clone(w.Queue), api.Job{Left: 77}, api.Job{Left: 78})[:len(w.Queue)]
	return w
}

// whole is a world with what lies behind the length of its lists, up to two of each.
func whole(w api.World) api.World {
	w.Field.Ground, w.Field.Ore = w.Field.Ground[:len(w.Field.Ground)+2], w.Field.Ore[:len(w.Field.Ore)+2]
	w.Gold, w.Units, w.Queue = w.Gold[:len(w.Gold)+2], w.Units[:len(w.Units)+2], w.Queue[:len(w.Queue)+2]
	return w
}

// behind is a list with one thing more behind its length.
func behind[T any](l []T, x T) []T { return append(slices.Clone(l), x)[:len(l)] }

// TestHandedInStays: P2, P4: a world, kinds, orders and turns that are handed in stay, with what lies behind, also where there is an error.
func TestHandedInStays(t *testing.T) {
	for _, wrong := range []string{"nothing", "the world", "the orders", "the Turn"} {
		w, k, l := roomy(few(t)), behind(sorts(), api.Kind{Name: "behind"}), behind(ordinary(), stop(77))
		switch wrong {
		case "the world":
			w.Queue[3].Left = 0
		case "the orders":
			l[8].Arg = -1
		case "the Turn":
			w.Turn = api.MaxNumber
		}
		turns := behind([][]api.Order{l, nil, l}, tooMany())
		before, asked := copied(whole(w)), slices.Clone(l[:10])
		turn.Give(k, w, l)
		_, events, err := turn.Step(k, w, l)
		_, bad := turn.Play(k, w, turns)
		if (err == nil) != (wrong == "nothing") || (bad == nil) != (wrong == "nothing") || (len(events) > 4) != (err == nil) {
			t.Fatalf("%s is wrong: got %v, %v, %v", wrong, events, err, bad)
		}
		if !alike(whole(w), before) {
			t.Errorf("%s is wrong: it became %v, and was %v", wrong, whole(w), before)
		}
		if !slices.Equal(k[:9], append(sorts(), api.Kind{Name: "behind"})) {
			t.Errorf("%s is wrong: the kinds became %v", wrong, k[:9])
		}
		if !slices.Equal(l[:10], asked) || !slices.Equal(turns[2][:10], asked) || turns[1] != nil || len(turns[:4][3]) != 61 {
			t.Errorf("%s is wrong: the orders became %v, the turns %v", wrong, l[:10], turns[:4])
		}
	}
}

func fill[T any](l []T, x T) {
	l = l[:cap(l)]
	for i := range l {
		l[i] = x
	}
}

// scrawl writes into all lists of a world, and behind them.
func scrawl(w api.World) {
	fill(w.Field.Ground, -7)
	fill(w.Field.Ore, -7)
	fill(w.Gold, -7)
	fill(w.Units, api.Unit{Id: -7})
	fill(w.Queue, api.Job{Left: -7})
}

// answer is all that a call tells.
type answer struct {
	world   api.World
	numbers []int
	events  []api.Event
}

func (a answer) copied() answer {
	return answer{copied(a.world), slices.Clone(a.numbers), slices.Clone(a.events)}
}

func (a answer) alike(b answer) bool {
	return alike(a.world, b.world) && slices.Equal(a.numbers, b.numbers) && slices.Equal(a.events, b.events)
}

func (a answer) scrawl() {
	scrawl(a.world)
	fill(a.numbers, -7)
	fill(a.events, api.Event{What: -7})
}

// calls are all there are.
func calls() []func(w api.World, l []api.Order) answer {
	return []func(w api.World, l []api.Order) answer{
		func(w api.World, l []api.Order) answer {
			got, refused, _ := turn.Give(sorts(), w, l)
			return answer{got, refused, nil}
		},
		func(w api.World, l []api.Order) answer {
			got, events, _ := turn.Step(sorts(), w, l)
			return answer{got, nil, events}
		},
		func(w api.World, l []api.Order) answer {
			got, _ := turn.Play(sorts(), w, nil)
			return answer{got, nil, nil}
		},
		func(w api.World, l []api.Order) answer {
			got, _ := turn.Play(sorts(), w, [][]api.Order{l, nil, l})
			return answer{got, nil, nil}
		},
	}
}

// TestAnswersAreFresh: P2, what is written into an answer stands in no argument and no other answer, and the other way round; also where nothing happens.
func TestAnswersAreFresh(t *testing.T) {
	for _, begin := range []api.World{few(t), scene(t, "...\n"), scene(t, "...\n", resting(base, 0))} {
		for i, call := range calls() {
			w, l := copied(begin), ordinary()
			call(w, l).scrawl()
			if !alike(w, begin) || !slices.Equal(l, ordinary()) {
				t.Fatalf("call %d: the world became %v, the orders %v", i, w, l)
			}
			second, third := call(w, l), call(w, l)
			kept := second.copied()
			if !third.alike(kept) {
				t.Errorf("call %d: got %v, and then %v", i, kept, third)
			}
			scrawl(w)
			fill(l, api.Order{Player: -7})
			third.scrawl()
			if !second.alike(kept) {
				t.Errorf("call %d: %v became %v", i, kept, second)
			}
			fill(second.world.Field.Ground, -8)
			fill(second.numbers, -9)
			if slices.Contains(second.world.Field.Ore, -8) || slices.Contains(second.world.Gold, -8) || slices.Contains(second.world.Field.Ground, -9) {
				t.Errorf("call %d: lists of one answer share memory: %v", i, second)
			}
		}
	}
}
