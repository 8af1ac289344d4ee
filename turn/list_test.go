package turn_test

import (
	"slices"
	"testing"

	"marchland/api"
	"marchland/orders"
	"marchland/turn"
)

// TestGiveNothing: T1, of no orders nothing comes.
func TestGiveNothing(t *testing.T) {
	given(t, "nobody", scene(t, "...\n"), nil, nil)
	given(t, "few, nil", few(t), nil, nil)
	given(t, "few, none", few(t), []api.Order{}, nil)
}

// TestGiveNobody: T1, there is no unit of that id and player, whatever is asked.
func TestGiveNobody(t *testing.T) {
	w := scene(t, "9...\n....\n", resting(wagon, 0), of(1, resting(wagon, 1)), resting(wagon, 5))
	w.Gold = []int{500, 500, 500}
	for _, c := range []struct {
		name         string
		player, unit int
	}{
		{"an id below all", 0, 1}, {"the id 0", 0, 0}, {"an id between two", 0, 4}, {"an id above all", 0, 9},
		{"Next", 0, 90}, {"MaxNumber", 0, api.MaxNumber}, {"an index", 0, 2},
		{"another player's, the first", 1, idOf(0)}, {"another player's, the second", 0, idOf(1)},
		{"another player's, the last", 1, idOf(2)}, {"of a player that has none", 2, idOf(0)},
		{"of a player that is none", 3, idOf(0)},
	} {
		for what, arg := range []int{0, 2, 0, digger} {
			given(t, c.name, w, []api.Order{{Player: c.player, Unit: c.unit, What: what, Arg: arg}}, nil, 0)
		}
	}
	for i, player := range []int{0, 1, 0} {
		for what, arg := range []int{0, 2, 0, digger} {
			_, refused, err := turn.Give(sorts(), w, []api.Order{{Player: player, Unit: idOf(i), What: what, Arg: arg}})
			if refused != nil || err != nil {
				t.Errorf("unit %d, what %d: got %v, %v", i, what, refused, err)
			}
		}
	}
}

// TestGiveNumbers: T1, what is refused is told by its number in Last's list, rising, not by that in the list that is handed in.
func TestGiveNumbers(t *testing.T) {
	w := scene(t, "9..#\n....\n", resting(digger, 1), of(1, resting(base, 2)), resting(wagon, 5), of(1, resting(bird, 6)))
	l := []api.Order{
		by(1, march(3, 3)),      // to rock: the number 6 of Last's list
		by(1, train(1, digger)), // 4
		march(2, 4),             // gone, since there is a later one
		by(2, stop(0)),          // no unit of that player: 7
		march(0, 3),             // to rock, and gone
		train(2, 8),             // no such kind: 1
		gather(2, 4),            // no ore: 3
		gather(0, 0),            // 0
		train(2, digger),        // 2
		by(1, stop(1)),          // 5
	}
	given(t, "mixed", w, l, func(w *api.World) {
		w.Units[0].Task, w.Units[0].Goal = api.Gather, 0
		w.Gold[0] -= 10
		w.Gold[1] -= 10
		w.Queue = []api.Job{job(2, digger, 2), {Player: 1, Unit: idOf(1), Kind: digger, Left: 2}}
	}, 1, 3, 6, 7)
	last, _ := orders.Last(l)
	if len(last) != 8 || last[6] != l[0] || last[1] != l[5] {
		t.Fatalf("Last gives %v", last)
	}
	all := []api.Order{stop(7), stop(6), stop(5), march(5, 0), by(1, stop(0)), by(3, stop(0)), by(2, stop(0))}
	given(t, "all refused", w, all, nil, 0, 1, 2, 3, 4, 5)
}

// TestGiveLast: T1, of a unit that was told to go away and to come back it comes back.
func TestGiveLast(t *testing.T) {
	w := scene(t, "9...\n...#\n", resting(wagon, 5), of(1, resting(base, 1)))
	for _, c := range []struct {
		name       string
		l          []api.Order
		task, goal int
		refused    []int
	}{
		{"away and back", []api.Order{march(0, 2), march(0, 5)}, api.March, 5, nil},
		{"away, back, and away", []api.Order{march(0, 2), march(0, 5), march(0, 2)}, api.March, 2, nil},
		{"march, then stop", []api.Order{march(0, 2), stop(0)}, api.Rest, 0, nil},
		{"stop, then march", []api.Order{stop(0), march(0, 2)}, api.March, 2, nil},
		{"gather, then march", []api.Order{gather(0, 0), march(0, 2)}, api.March, 2, nil},
		{"march, then gather", []api.Order{march(0, 2), gather(0, 0)}, api.Gather, 0, nil},
		{"one that is refused, then one that is not", []api.Order{march(0, 7), march(0, 2)}, api.March, 2, nil},
		{"one that is not refused, then one that is: neither", []api.Order{march(0, 2), march(0, 7)}, api.Rest, 0, []int{0}},
		{"gather, then march to nowhere: neither", []api.Order{gather(0, 0), march(0, 8)}, api.Rest, 0, []int{0}},
		{"another player asks last", []api.Order{march(0, 2), by(1, march(0, 4))}, api.March, 2, []int{1}},
		{"another player asks last, and is ahead", []api.Order{by(1, march(1, 2)), march(0, 2), march(1, 4)}, api.March, 2, []int{1}},
	} {
		got, refused, err := turn.Give(sorts(), w, c.l)
		u := got.Units[0]
		if u.Task != c.task || u.Goal != c.goal || !slices.Equal(refused, c.refused) || err != nil {
			t.Errorf("%s: got %v, %v, %v", c.name, u, refused, err)
		}
	}
}

// TestGiveBoth: T1, a unit may be told to train, more than once, and to go, in whatever order it is asked.
func TestGiveBoth(t *testing.T) {
	w := scene(t, "9...\n....\n", resting(wagon, 5))
	l := []api.Order{march(0, 3), train(0, bird), gather(0, 0), train(0, digger), train(0, bird)}
	given(t, "both", w, l, func(w *api.World) {
		w.Units[0].Task, w.Units[0].Goal = api.Gather, 0
		w.Gold[0] -= 60
		w.Queue = []api.Job{job(0, bird, 3), job(0, digger, 2), job(0, bird, 3)}
	})
}

// TestGiveOneByOne: T1, Gold and jobs are counted as the orders ahead have left them.
func TestGiveOneByOne(t *testing.T) {
	begin := scene(t, "....\n....\n", resting(base, 0), resting(base, 1), of(1, resting(base, 2)))
	theirs := func(kind, left int) api.Job { return api.Job{Player: 1, Unit: idOf(2), Kind: kind, Left: left} }
	for _, c := range []struct {
		name        string
		golds, left []int
		had         []api.Job
		l           []api.Order
		more        []api.Job
		refused     []int
	}{
		{"Gold for one alone", []int{10, 60, 7}, []int{0, 60, 7}, nil, []api.Order{train(0, digger), train(0, digger)}, []api.Job{job(0, digger, 2)}, []int{1}},
		{"Gold for one alone, and some", []int{19, 60, 7}, []int{9, 60, 7}, nil, []api.Order{train(0, digger), train(0, digger)}, []api.Job{job(0, digger, 2)}, []int{1}},
		{"Gold for both", []int{20, 60, 7}, []int{0, 60, 7}, nil, []api.Order{train(0, digger), train(0, digger)}, []api.Job{job(0, digger, 2), job(0, digger, 2)}, nil},
		{"Gold for one of two units", []int{10, 60, 7}, []int{0, 60, 7}, nil, []api.Order{train(1, digger), train(0, digger)}, []api.Job{job(0, digger, 2)}, []int{1}},
		{"Gold for the second alone", []int{15, 60, 7}, []int{5, 60, 7}, nil, []api.Order{train(0, fighter), train(0, digger)}, []api.Job{job(0, digger, 2)}, []int{0}},
		{"Gold for the first and the third", []int{30, 60, 7}, []int{0, 60, 7}, nil, []api.Order{train(0, fighter), train(0, bird), train(0, digger)}, []api.Job{job(0, fighter, 3), job(0, digger, 2)}, []int{1}},
		{"none left, and one that costs nothing", []int{10, 60, 7}, []int{0, 60, 7}, nil, []api.Order{train(0, digger), train(0, quick)}, []api.Job{job(0, digger, 2), job(0, quick, 1)}, nil},
		{"each player pays for itself", []int{10, 20, 7}, []int{0, 0, 7}, nil, []api.Order{by(1, train(2, fighter)), train(0, digger), by(1, train(2, digger))}, []api.Job{job(0, digger, 2), theirs(fighter, 3)}, []int{2}},
		{"room for the first player alone", []int{10, 20, 7}, []int{0, 20, 7}, slices.Repeat([]api.Job{theirs(base, 3)}, 11), []api.Order{by(1, train(2, fighter)), train(0, digger)}, []api.Job{job(0, digger, 2)}, []int{1}},
		{"room for the second, since the first has no Gold", []int{9, 20, 7}, []int{9, 0, 7}, slices.Repeat([]api.Job{theirs(base, 3)}, 11), []api.Order{by(1, train(2, fighter)), train(0, digger)}, []api.Job{theirs(fighter, 3)}, []int{0}},
	} {
		w := copied(begin)
		w.Gold, w.Queue = c.golds, c.had
		given(t, c.name, w, c.l, func(w *api.World) {
			w.Gold = c.left
			w.Queue = append(w.Queue, c.more...)
		}, c.refused...)
	}
}

// TestGiveAll: T1, as many orders as there may be: 12 come into the queue, in their order, and the others are refused.
func TestGiveAll(t *testing.T) {
	w := scene(t, "...\n", resting(base, 0))
	var l []api.Order
	var refused []int
	for i := range api.MaxOrders {
		l = append(l, train(0, []int{quick, digger}[i%2]))
		if i >= api.MaxQueue {
			refused = append(refused, i)
		}
	}
	w.Gold[0] = 1000
	given(t, "60 orders", w, l, func(w *api.World) {
		w.Gold[0] = 940
		w.Queue = slices.Repeat([]api.Job{job(0, quick, 1), job(0, digger, 2)}, 6)
	}, refused...)
}

// TestGiveTurn: T1, T2: Give minds not how late it is, and the Turn stays.
func TestGiveTurn(t *testing.T) {
	w := scene(t, "...\n", resting(digger, 0))
	for _, n := range []int{0, 1, api.MaxNumber - 1, api.MaxNumber} {
		w.Turn = n
		given(t, "a Turn", w, []api.Order{march(0, 2)}, func(w *api.World) { w.Units[0].Task, w.Units[0].Goal = api.March, 2 })
	}
}
