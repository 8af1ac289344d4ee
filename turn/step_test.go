package turn_test

import (
	"slices"
	"testing"

	"marchland/api"
	"marchland/plain"
	"marchland/turn"
)

// stepped asks what becomes of a world in a turn, beside that Turn is one more, and what is told; nothing else changes.
func stepped(t *testing.T, name string, w api.World, l []api.Order, become func(w *api.World), events ...api.Event) {
	t.Helper()
	want := copied(w)
	want.Turn++
	if become != nil {
		become(&want)
	}
	got, told, err := turn.Step(sorts(), w, l)
	if !alike(got, want) || !slices.Equal(told, events) || err != nil {
		t.Errorf("%s: got %v, %v, %v; want %v, %v", name, got, told, err, want, events)
	}
	right(t, sorts(), got)
}

// Events of the unit of an index.

func moved(i, at int) api.Event     { return api.Event{What: 1, Unit: idOf(i), Arg: at} }
func struck(i, whom int) api.Event  { return api.Event{What: 2, Unit: idOf(i), Arg: idOf(whom)} }
func fell(i int) api.Event          { return api.Event{What: 3, Unit: idOf(i)} }
func took(i, many int) api.Event    { return api.Event{What: 4, Unit: idOf(i), Arg: many} }
func brought(i, many int) api.Event { return api.Event{What: 5, Unit: idOf(i), Arg: many} }

// came is the event of the first one that comes into a scene.
func came(at int) api.Event { return api.Event{What: 6, Unit: 90, Arg: at} }

// comes puts into a scene the first one that comes.
func comes(w *api.World, player, kind, at int) {
	w.Units = append(w.Units, api.Unit{Id: 90, Player: player, Kind: kind, At: at, Life: sorts()[kind].Life})
	w.Next = 91
}

// falls takes the unit of an index out of a world.
func falls(w *api.World, i int) { w.Units = slices.Delete(w.Units, i, i+1) }

// TestStepNothing: T2, of no orders, where nobody is busy, the Turn alone grows.
func TestStepNothing(t *testing.T) {
	stepped(t, "nobody", scene(t, "...\n"), nil, nil)
	stepped(t, "who rests", scene(t, "9..\n", resting(digger, 0), resting(base, 2)), []api.Order{}, nil)
	stepped(t, "who is to stop", scene(t, "9..\n", marching(digger, 0, 1), resting(base, 2)), []api.Order{stop(0)}, func(w *api.World) {
		w.Units[0].Task, w.Units[0].Goal = api.Rest, 0
	})
}

// TestStepGiveFirst: T2, what is asked is done in the same turn.
func TestStepGiveFirst(t *testing.T) {
	w := scene(t, "...\n", resting(base, 0))
	stepped(t, "a kind of one turn comes at once", w, []api.Order{train(0, wagon)}, func(w *api.World) {
		w.Gold[0] = 60
		comes(w, 0, wagon, 1)
	}, came(1))
	stepped(t, "a kind of no turn comes at once", w, []api.Order{train(0, quick)}, func(w *api.World) { comes(w, 0, quick, 1) }, came(1))
	stepped(t, "a kind of two turns comes in the next one", w, []api.Order{train(0, digger)}, func(w *api.World) {
		w.Gold[0] = 90
		w.Queue = []api.Job{job(0, digger, 1)}
	})
	w = scene(t, "....\n", resting(digger, 0))
	stepped(t, "one that is to march does", w, []api.Order{march(0, 3)}, func(w *api.World) {
		w.Units[0].At, w.Units[0].Task, w.Units[0].Goal = 2, api.March, 3
	}, moved(0, 1), moved(0, 2))
	stepped(t, "one that gets there rests", w, []api.Order{march(0, 1)}, func(w *api.World) { w.Units[0].At = 1 }, moved(0, 1))
	stepped(t, "one that is there rests", w, []api.Order{march(0, 0)}, nil)
	stepped(t, "one that is to stop does", scene(t, "....\n", marching(digger, 1, 3)), []api.Order{stop(0)}, func(w *api.World) {
		w.Units[0].Task, w.Units[0].Goal = api.Rest, 0
	})
	stepped(t, "one that is told to go away and to come back", scene(t, "....\n", marching(digger, 2, 3)), []api.Order{march(0, 0), march(0, 1)}, func(w *api.World) {
		w.Units[0] = api.Unit{Id: 3, Kind: digger, At: 1, Life: 3}
	}, moved(0, 1))
}

// TestStepRefused: T2, an order that is refused is no error, and the others are done.
func TestStepRefused(t *testing.T) {
	w := scene(t, "...#\n", resting(digger, 0), of(1, resting(wagon, 2)))
	stepped(t, "all refused", w, []api.Order{march(0, 3), march(1, 1), gather(0, 1), by(1, train(1, titan)), stop(9)}, nil)
	stepped(t, "one of two", w, []api.Order{march(0, 3), by(1, march(1, 1))}, func(w *api.World) { w.Units[1].At = 1 }, moved(1, 1))
	stepped(t, "one that is to come", scene(t, "...\n", resting(base, 0)), []api.Order{train(0, quick), {Unit: 90, What: api.DoMarch, Arg: 2}}, func(w *api.World) {
		comes(w, 0, quick, 1)
	}, came(1))
	w = scene(t, "...\n", resting(base, 0), api.Unit{Kind: digger, At: 1, Load: 10})
	w.Gold[0] = 0
	stepped(t, "who is paid with what is brought", w, []api.Order{train(0, digger)}, func(w *api.World) {
		w.Gold[0], w.Units[1].Load = 10, 0
	}, brought(1, 10))
}

// TestStepTrainMove: T2, who comes is there ahead of who moves.
func TestStepTrainMove(t *testing.T) {
	w := scene(t, "....\n", resting(base, 0), marching(digger, 2, 1))
	w.Queue = []api.Job{job(0, digger, 1)}
	stepped(t, "it stands in the way", w, nil, func(w *api.World) {
		w.Queue = nil
		comes(w, 0, digger, 1)
	}, came(1))
	w = scene(t, "....\n", resting(base, 0), marching(digger, 1, 3))
	w.Queue = []api.Job{job(0, digger, 1)}
	stepped(t, "it comes behind who is still there", w, nil, func(w *api.World) {
		w.Queue = nil
		comes(w, 0, digger, 2)
	}, came(2))
}

// TestStepTrainDig: T2, who comes is there ahead of who brings.
func TestStepTrainDig(t *testing.T) {
	w := scene(t, "...\n", resting(base, 0), api.Unit{Kind: digger, At: 2, Load: 7})
	w.Queue = []api.Job{job(0, base, 1)}
	stepped(t, "a base comes beside it", w, nil, func(w *api.World) {
		w.Queue = nil
		w.Gold[0], w.Units[1].Load = 107, 0
		comes(w, 0, base, 1)
	}, came(1), brought(1, 7))
}

// TestStepTrainFight: T2, who comes strikes, and is struck, in the same turn; and one that falls has trained.
func TestStepTrainFight(t *testing.T) {
	w := scene(t, "...\n", resting(base, 0), of(1, resting(digger, 2)))
	w.Queue = []api.Job{job(0, fighter, 1)}
	stepped(t, "who comes strikes", w, nil, func(w *api.World) {
		w.Queue = nil
		comes(w, 0, fighter, 1)
		falls(w, 1)
	}, came(1), api.Event{What: api.Struck, Unit: 90, Arg: idOf(1)}, fell(1))
	w = scene(t, "...\n", alive(4, resting(base, 0)), of(1, alive(20, resting(fighter, 1))))
	w.Queue = []api.Job{job(0, digger, 1), job(0, bird, 3)}
	stepped(t, "who falls has trained, and does not any more", w, nil, func(w *api.World) {
		w.Queue = nil
		comes(w, 0, digger, 2)
		falls(w, 0)
	}, came(2), struck(1, 0), fell(0))
	w = scene(t, "...\n", resting(base, 0), of(1, resting(fighter, 2)))
	stepped(t, "who comes is struck", w, []api.Order{train(0, quick)}, func(w *api.World) { w.Next = 91 },
		came(1), api.Event{What: api.Struck, Unit: idOf(1), Arg: 90}, api.Event{What: api.Fell, Unit: 90})
}

// TestStepMoveDig: T2, who gets there takes, and brings, in the same turn.
func TestStepMoveDig(t *testing.T) {
	stepped(t, "takes", scene(t, "..9.\n", resting(digger, 0)), []api.Order{gather(0, 2)}, func(w *api.World) {
		w.Units[0] = api.Unit{Id: 3, Kind: digger, At: 2, Life: 3, Load: 10, Task: api.Gather, Goal: 2}
		w.Field.Ore[2] = 80
	}, moved(0, 1), moved(0, 2), took(0, 10))
	stepped(t, "brings", scene(t, "...9\n", resting(base, 0), gathering(digger, 3, 3, 20)), nil, func(w *api.World) {
		w.Units[1].At, w.Units[1].Load, w.Gold[0] = 1, 0, 120
	}, moved(1, 2), moved(1, 1), brought(1, 20))
	stepped(t, "has gone away, and takes not", scene(t, "9...\n", gathering(digger, 0, 0, 5)), []api.Order{march(0, 1)}, func(w *api.World) {
		w.Units[0] = api.Unit{Id: 3, Kind: digger, At: 1, Life: 3, Load: 5}
	}, moved(0, 1))
}

// TestStepMoveFight: T2, who gets near strikes, and who gets away is not struck.
func TestStepMoveFight(t *testing.T) {
	stepped(t, "gets near", scene(t, "....\n", resting(fighter, 0), of(1, alive(9, resting(digger, 3)))), []api.Order{march(0, 2)}, func(w *api.World) {
		w.Units[0].At, w.Units[1].Life = 2, 5
	}, moved(0, 1), moved(0, 2), struck(0, 1))
	stepped(t, "gets away", scene(t, "....\n", resting(fighter, 0), of(1, resting(digger, 1))), []api.Order{by(1, march(1, 3))}, func(w *api.World) {
		w.Units[1].At = 3
	}, moved(1, 2), moved(1, 3))
}

// TestStepDigFight: T2, one that falls has taken and brought.
func TestStepDigFight(t *testing.T) {
	stepped(t, "brings and falls", scene(t, "...\n", resting(base, 0), api.Unit{Kind: digger, At: 1, Load: 7, Life: 2}, of(1, resting(fighter, 2))), nil, func(w *api.World) {
		w.Gold[0] = 107
		falls(w, 1)
	}, brought(1, 7), struck(2, 1), fell(1))
	stepped(t, "takes and falls", scene(t, "...9\n", gathering(digger, 3, 3, 7), of(1, resting(fighter, 2))), nil, func(w *api.World) {
		w.Field.Ore[3] = 80
		falls(w, 0)
	}, took(0, 10), struck(1, 0), fell(0))
	stepped(t, "brings to one that falls", scene(t, "...\n", alive(2, resting(base, 1)), api.Unit{Kind: digger, At: 0, Load: 7}, of(1, resting(fighter, 2))), nil, func(w *api.World) {
		w.Gold[0], w.Units[1].Load = 107, 0
		falls(w, 0)
	}, brought(1, 7), struck(2, 0), fell(0))
}

// TestStepAll: T2, all that there can be in one turn, told in its order.
func TestStepAll(t *testing.T) {
	w := scene(t, "....9.......\n............\n", of(1, resting(digger, 11)), resting(fighter, 9), resting(base, 0), resting(digger, 3), resting(wagon, 16))
	l := []api.Order{march(1, 10), train(2, digger), gather(3, 4), train(2, bird)}
	w.Queue = []api.Job{job(2, quick, 1), job(4, bird, 3)}
	stepped(t, "all", w, l, func(w *api.World) {
		w.Gold[0] = 100 - 10 - 25 + 10
		w.Queue = []api.Job{job(4, bird, 2), job(2, digger, 2), job(2, bird, 3)}
		w.Field.Ore[4] = 80
		w.Units[1].At = 10
		w.Units[3].At, w.Units[3].Task, w.Units[3].Goal = 4, api.Gather, 4
		comes(w, 0, quick, 1)
		falls(w, 0)
	}, came(1), moved(1, 10), moved(3, 4), took(3, 10), brought(3, 10), struck(1, 0), fell(0))
}

// TestStepTurn: T2, Turn is one more, up to MaxNumber; then there is no further turn.
func TestStepTurn(t *testing.T) {
	w := scene(t, "...\n", resting(digger, 0))
	for _, n := range []int{0, 1, 199, 200, api.MaxNumber - 2, api.MaxNumber - 1} {
		w.Turn = n
		stepped(t, "a Turn", w, []api.Order{march(0, 1)}, func(w *api.World) { w.Units[0].At = 1 }, moved(0, 1))
	}
	w.Turn = api.MaxNumber
	for _, l := range [][]api.Order{nil, {march(0, 1)}, {march(0, 7)}} {
		if got, events, err := turn.Step(sorts(), w, l); !alike(got, api.World{}) || events != nil || plain.Told(err) != api.ErrFull {
			t.Errorf("%v at MaxNumber: got %v, %v, %v", l, got, events, err)
		}
	}
}
