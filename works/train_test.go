package works_test

import (
	"math"
	"slices"
	"testing"

	"marchland/api"
	"marchland/plain"
	"marchland/works"
)

// spots for kinds at the first unit of a scene; -1: there is none.
type spots struct {
	name, text string
	units      []api.Unit
	goes, flew int
}

func (c spots) hold(t *testing.T) {
	t.Helper()
	w := scene(t, c.text, c.units...)
	for kind, want := range map[int]int{fighter: c.goes, digger: c.goes, base: c.goes, bird: c.flew, ark: c.flew} {
		told := api.OK
		if want < 0 {
			want, told = 0, api.ErrNone
		}
		if got, err := works.Spot(sorts(), w, idOf(0), kind); got != want || plain.Told(err) != told {
			t.Errorf("%s, kind %d: got %d, %v; want %d, %v", c.name, kind, got, err, want, told)
		}
	}
}

// TestSpot: D2, never the unit's own cell; the least way, of equal ones the first cell.
func TestSpot(t *testing.T) {
	for _, c := range []spots{
		{"up ahead of all", "...\n...\n...\n", []api.Unit{resting(base, 4)}, 1, 1},
		{"left ahead of right", "...\n", []api.Unit{resting(base, 1)}, 0, 0},
		{"up is taken", "...\n...\n...\n", []api.Unit{resting(base, 4), resting(fighter, 1)}, 3, 3},
		{"up and left are taken", "...\n...\n...\n", []api.Unit{resting(base, 4), resting(fighter, 1), of(1, resting(base, 3))}, 5, 5},
		{"down alone is free", "...\n...\n...\n", []api.Unit{resting(base, 4), resting(fighter, 1), of(1, resting(base, 3)), resting(bird, 5)}, 7, 7},
		{"all beside are taken: the first corner", "...\n...\n...\n", []api.Unit{resting(base, 4), resting(fighter, 1), resting(base, 3), resting(bird, 5), resting(ark, 7)}, 0, 0},
		{"at the cell 0", "...\n...\n", []api.Unit{resting(base, 0)}, 1, 1},
		{"at the last cell", "...\n...\n", []api.Unit{resting(base, 5)}, 2, 2},
		{"not over a row's end", "..#\n...\n", []api.Unit{resting(base, 3)}, 0, 0},
		{"two away", "....\n", []api.Unit{resting(base, 0), resting(fighter, 1)}, 2, 2},
		{"three away", ".....\n", []api.Unit{resting(base, 0), resting(fighter, 1), resting(fighter, 2)}, 3, 3},
		{"four away", ".....\n", []api.Unit{resting(base, 0), resting(fighter, 1), resting(fighter, 2), resting(fighter, 3)}, -1, -1},
		{"alone on its field", ".\n", []api.Unit{resting(base, 0)}, -1, -1},
		{"all are taken", "...\n", []api.Unit{resting(base, 0), resting(base, 1), resting(base, 2)}, -1, -1},
		{"enclosed by rock", ".#.\n#.#\n.#.\n", []api.Unit{resting(base, 4)}, -1, -1},
		{"enclosed by water", ".~.\n~.~\n.~.\n", []api.Unit{resting(base, 4)}, -1, 1},
		{"a forest above: farther for who goes", ".^.\n...\n...\n", []api.Unit{resting(base, 4)}, 3, 1},
		{"forests all around", "^^^\n^.^\n^^^\n", []api.Unit{resting(base, 4)}, 1, 1},
		{"a forest at two, as far as two plains", "..#.\n.^..\n", []api.Unit{resting(base, 4), resting(fighter, 0)}, 1, 5},
		{"a forest and one more are three", ".^.\n", []api.Unit{resting(base, 0), resting(fighter, 1)}, 2, 2},
		{"two forests are four", ".^^.\n", []api.Unit{resting(base, 0), resting(fighter, 1)}, -1, 2},
		{"a forest behind two plains is four", "...^\n", []api.Unit{resting(base, 0), resting(fighter, 1), resting(fighter, 2)}, -1, 3},
		{"the forest where who trains stands is no matter", "^...\n", []api.Unit{resting(base, 0), resting(fighter, 1), resting(fighter, 2)}, 3, 3},
		{"round water", ".~.\n...\n", []api.Unit{resting(base, 0), resting(fighter, 3), resting(fighter, 4)}, 5, 1},
		{"round water is too far", ".~.\n...\n", []api.Unit{resting(base, 0), resting(fighter, 3), resting(fighter, 4), resting(fighter, 5)}, -1, 1},
		{"over water three away", ".~~~.\n", []api.Unit{resting(base, 0), resting(bird, 1), resting(bird, 2)}, -1, 3},
		{"over water four away", ".~~~.\n", []api.Unit{resting(base, 0), resting(bird, 1), resting(bird, 2), resting(bird, 3)}, -1, -1},
		{"a way, not a line", ".#.\n.#.\n...\n", []api.Unit{resting(base, 0), resting(bird, 3), resting(bird, 6)}, 7, 7},
		{"through those who stand in the way", "....\n", []api.Unit{resting(base, 1), of(1, resting(fighter, 0)), of(2, resting(bird, 2))}, 3, 3},
		{"a later cell that is nearer", ".....\n.....\n", []api.Unit{resting(base, 6), resting(base, 1), resting(base, 5), resting(base, 7)}, 0, 0},
		{"the nearer one is behind in its row", "....\n", []api.Unit{resting(base, 2), resting(fighter, 1)}, 3, 3},
		{"at one that does not train", "...\n", []api.Unit{resting(fighter, 1)}, 0, 0},
		{"at one that marches", "...\n", []api.Unit{marching(wagon, 1, 2, 0)}, 0, 0},
		{"at one over water: from there to the land", ".~.\n", []api.Unit{resting(ark, 1)}, 0, 0},
		{"at one over the sea: no land beside", "~~~.\n~~~.\n", []api.Unit{resting(ark, 0)}, -1, 1},
		{"at one over the sea: who goes gets not over it", "~~.\n", []api.Unit{resting(ark, 0)}, -1, 1},
		{"at one that flies, as who goes", ".^.\n...\n", []api.Unit{resting(ark, 4)}, 3, 1},
	} {
		c.hold(t)
	}
}

// TestSpotOfEach: D2, by a unit's id, not its index.
func TestSpotOfEach(t *testing.T) {
	w := scene(t, "......\n......\n", resting(base, 0), of(1, resting(fighter, 5)), resting(base, 9), resting(ark, 6))
	for i, want := range []int{1, 4, 3, 7} {
		if got, err := works.Spot(sorts(), w, idOf(i), digger); got != want || err != nil {
			t.Errorf("unit %d: got %d, %v; want %d", idOf(i), got, err, want)
		}
	}
}

// outside are numbers of units and kinds that few has not.
var outside = []int{-1, -2, 8, 40, 90, 1 << 32, 1<<32 + 3, math.MaxInt, math.MinInt}

// TestSpotWrong: D2, an id that is none, then a kind that is none, then no such cell.
func TestSpotWrong(t *testing.T) {
	free, full := scene(t, "....\n", resting(base, 0)), scene(t, ".\n", resting(base, 0))
	none := func(w api.World, unit, kind int, want api.Errno) {
		t.Helper()
		if got, err := works.Spot(sorts(), w, unit, kind); got != 0 || plain.Told(err) != want {
			t.Errorf("unit %d, kind %d: got %d, %v; want %v", unit, kind, got, err, want)
		}
	}
	for _, x := range outside {
		none(free, x, digger, api.ErrNone)
		none(free, idOf(0), x, api.ErrRange)
		none(full, idOf(0), x, api.ErrRange)
		for _, y := range outside {
			none(free, x, y, api.ErrNone)
			none(full, x, y, api.ErrNone)
		}
	}
	for _, id := range []int{0, 1, 2, 4, 5, 89} {
		none(free, id, digger, api.ErrNone)
		none(scene(t, "....\n"), id, digger, api.ErrNone)
	}
	for kind := range sorts() {
		none(full, idOf(0), kind, api.ErrNone)
	}
	if _, err := works.Spot(nil, api.World{Next: 1, Field: free.Field, Gold: []int{0}}, 1, 0); plain.Told(err) != api.ErrNone {
		t.Errorf("no kinds and no units: got %v", err)
	}
}

// trained is what comes of a scene's jobs: who has come, and what is left of them.
type trained struct {
	name, text  string
	units       []api.Unit
	queue, left []api.Job
	come        []api.Unit
}

// job is one of player 0 at the unit of an index.
func job(unit, kind, left int) api.Job { return api.Job{Unit: idOf(unit), Kind: kind, Left: left} }

// jobOf is a job as another player has it.
func jobOf(player int, j api.Job) api.Job {
	j.Player = player
	return j
}

// want is what comes of a world, and what is told.
func (c trained) want(w api.World) (api.World, []api.Event) {
	w = copied(w)
	var events []api.Event
	for _, u := range c.come {
		u.Id, u.Life = w.Next, sorts()[u.Kind].Life
		w.Next++
		w.Units = append(w.Units, u)
		events = append(events, api.Event{What: 6, Unit: u.Id, Arg: u.At})
	}
	w.Queue = c.left
	return w, events
}

func (c trained) hold(t *testing.T) {
	t.Helper()
	w := scene(t, c.text, c.units...)
	w.Queue = c.queue
	right(t, sorts(), w)
	want, told := c.want(w)
	got, events, err := works.Train(sorts(), w)
	if !alike(got, want) || !slices.Equal(events, told) || err != nil {
		t.Errorf("%s: got %v, %v, %v; want %v, %v", c.name, got, events, err, want, told)
	}
	right(t, sorts(), got)
}

// TestTrain: D2, one turn less, and who comes where.
func TestTrain(t *testing.T) {
	home := []api.Unit{resting(base, 0)}
	for _, c := range []trained{
		{"no jobs", "...\n", home, nil, nil, nil},
		{"nobody", "...\n", nil, nil, nil, nil},
		{"more than one turn left", "...\n", home, []api.Job{job(0, digger, 3)}, []api.Job{job(0, digger, 2)}, nil},
		{"two turns left", "...\n", home, []api.Job{job(0, digger, 2)}, []api.Job{job(0, digger, 1)}, nil},
		{"the most turns left", "...\n", home, []api.Job{job(0, digger, 1000)}, []api.Job{job(0, digger, 999)}, nil},
		{"more than one turn left, and no Spot", ".\n", home, []api.Job{job(0, digger, 2)}, []api.Job{job(0, digger, 1)}, nil},
		{"one comes", "...\n", home, []api.Job{job(0, digger, 1)}, nil, []api.Unit{resting(digger, 1)}},
		{"one that flies comes", ".~.\n...\n", home, []api.Job{job(0, bird, 1)}, nil, []api.Unit{resting(bird, 1)}},
		{"one that goes comes", ".~.\n...\n", home, []api.Job{job(0, digger, 1)}, nil, []api.Unit{resting(digger, 3)}},
		{"one that goes comes from one that flies", "~~.\n~..\n", []api.Unit{resting(ark, 1)}, []api.Job{job(0, digger, 1)}, nil, []api.Unit{resting(digger, 2)}},
		{"of another player", "...\n", []api.Unit{of(2, resting(base, 2))}, []api.Job{jobOf(2, job(0, base, 1))}, nil, []api.Unit{of(2, resting(base, 1))}},
		{"waits without a Spot", ".\n", home, []api.Job{job(0, digger, 1)}, []api.Job{job(0, digger, 1)}, nil},
		{"waits without a Spot for who goes", ".~\n", home, []api.Job{job(0, digger, 1)}, []api.Job{job(0, digger, 1)}, nil},
		{"who trains marches and carries", "...\n", []api.Unit{marching(wagon, 1, 2, 4)}, []api.Job{job(0, digger, 1)}, nil, []api.Unit{resting(digger, 0)}},
	} {
		c.hold(t)
	}
}

// TestTrainSeveral: D2, jobs in their order, of each unit the first alone; each finds the world as the one ahead left it.
func TestTrainSeveral(t *testing.T) {
	two := []api.Unit{resting(base, 0), of(1, resting(base, 4))}
	far := jobOf(1, job(1, fighter, 1))
	for _, c := range []trained{
		{"two jobs of one unit", "...\n", two[:1], []api.Job{job(0, digger, 3), job(0, bird, 3)}, []api.Job{job(0, digger, 2), job(0, bird, 3)}, nil},
		{"the first of two comes", "...\n", two[:1], []api.Job{job(0, digger, 1), job(0, bird, 1)}, []api.Job{job(0, bird, 1)}, []api.Unit{resting(digger, 1)}},
		{"the first is not the nearest to its end", "...\n", two[:1], []api.Job{job(0, digger, 5), job(0, bird, 1)}, []api.Job{job(0, digger, 4), job(0, bird, 1)}, nil},
		{"the first waits, the second does too", ".~\n", two[:1], []api.Job{job(0, digger, 1), job(0, bird, 1)}, []api.Job{job(0, digger, 1), job(0, bird, 1)}, nil},
		{"three jobs of one unit", "...\n", two[:1], []api.Job{job(0, digger, 1), job(0, bird, 1), job(0, base, 2)}, []api.Job{job(0, bird, 1), job(0, base, 2)}, []api.Unit{resting(digger, 1)}},
		{"two equal jobs of one unit", "...\n", two[:1], []api.Job{job(0, digger, 1), job(0, digger, 1)}, []api.Job{job(0, digger, 1)}, []api.Unit{resting(digger, 1)}},
		{"of two units", ".....\n", two, []api.Job{job(0, digger, 1), far}, nil, []api.Unit{resting(digger, 1), of(1, resting(fighter, 3))}},
		{"of two units, in the order of the jobs", ".....\n", two, []api.Job{far, job(0, digger, 1)}, nil, []api.Unit{of(1, resting(fighter, 3)), resting(digger, 1)}},
		{"of two units by turns", ".....\n", two, []api.Job{job(0, digger, 2), far, job(0, bird, 1), jobOf(1, job(1, base, 1))}, []api.Job{job(0, digger, 1), job(0, bird, 1), jobOf(1, job(1, base, 1))}, []api.Unit{of(1, resting(fighter, 3))}},
		{"one comes where another one would have", "...\n", []api.Unit{resting(base, 0), resting(base, 2)}, []api.Job{job(0, digger, 1), job(1, fighter, 1)}, []api.Job{job(1, fighter, 1)}, []api.Unit{resting(digger, 1)}},
		{"the second finds another cell", "...\n...\n", []api.Unit{resting(base, 0), resting(base, 2)}, []api.Job{job(1, digger, 1), job(0, fighter, 1)}, nil, []api.Unit{resting(digger, 1), resting(fighter, 3)}},
		{"one waits, one behind it comes", ".#...\n", two, []api.Job{job(0, digger, 1), far}, []api.Job{job(0, digger, 1)}, []api.Unit{of(1, resting(fighter, 3))}},
		{"one comes, one behind it waits", "...#.\n", two, []api.Job{job(0, digger, 1), far}, []api.Job{far}, []api.Unit{resting(digger, 1)}},
	} {
		c.hold(t)
	}
}

// crowd is a world with so many units: a base of player 0, and the rest of player 1 far from it, with cells between.
func crowd(t *testing.T, many int) api.World {
	units := []api.Unit{resting(base, 0)}
	for i := 1; i < many; i++ {
		units = append(units, of(1, resting(fighter, 144-2*i)))
	}
	text := ""
	for range 12 {
		text += "............\n"
	}
	return scene(t, text, units...)
}

// TestTrainFull: D2, with MaxUnits one waits, and comes when there are fewer.
func TestTrainFull(t *testing.T) {
	for many, comes := range map[int]int{37: 2, 38: 2, 39: 1, 40: 0} {
		w := crowd(t, many)
		w.Units[1].Kind = base
		w.Queue = []api.Job{job(0, digger, 1), jobOf(1, job(1, bird, 1))}
		got, events, err := works.Train(sorts(), w)
		if err != nil || len(events) != comes || len(got.Units) != many+comes || got.Next != 90+comes || !slices.Equal(got.Queue, w.Queue[comes:]) {
			t.Errorf("%d units: got %d of them, %v, %v, %v", many, len(got.Units), got.Queue, events, err)
		}
		right(t, sorts(), got)
	}
}

// TestTrainLast: D2, with Next at MaxNumber one waits.
func TestTrainLast(t *testing.T) {
	for next, comes := range map[int]int{api.MaxNumber - 2: 2, api.MaxNumber - 1: 1, api.MaxNumber: 0} {
		w := scene(t, ".....\n", resting(base, 0), resting(base, 4))
		w.Next = next
		w.Queue = []api.Job{job(0, digger, 1), job(1, bird, 1)}
		got, events, err := works.Train(sorts(), w)
		if err != nil || len(events) != comes || got.Next != next+comes || !slices.Equal(got.Queue, w.Queue[comes:]) {
			t.Errorf("Next %d: got %v, %v, %v", next, got, events, err)
		}
		for i, e := range events {
			if e.Unit != next+i || got.Units[2+i].Id != next+i {
				t.Errorf("Next %d: got %v, %v", next, e, got.Units)
			}
		}
		right(t, sorts(), got)
	}
}

// TestTrainAgain: D2, turn by turn, until the queue is empty.
func TestTrainAgain(t *testing.T) {
	w := scene(t, "....\n", resting(base, 0))
	w.Queue = []api.Job{job(0, digger, 2), job(0, digger, 1), job(0, bird, 3), job(0, fighter, 1)}
	for turn, want := range []struct{ units, jobs, left int }{{1, 4, 1}, {2, 3, 1}, {3, 2, 3}, {3, 2, 2}, {3, 2, 1}, {4, 1, 1}, {4, 1, 1}} {
		got, events, err := works.Train(sorts(), w)
		if err != nil || len(got.Units) != want.units || len(got.Queue) != want.jobs || got.Queue[0].Left != want.left || len(events) != len(got.Units)-len(w.Units) {
			t.Errorf("turn %d: got %v, %v, %v", turn, got, events, err)
		}
		if got.Turn != 6 || !slices.Equal(got.Gold, w.Gold) {
			t.Errorf("turn %d: got %v", turn, got)
		}
		w = got
	}
}
