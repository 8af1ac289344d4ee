package fight_test

import (
	"slices"
	"testing"

	"marchland/api"
	"marchland/fight"
)

// struck is who strikes whom, by their indexes.
type struck struct{ by, who int }

// fought is what comes of a scene: who strikes whom, and the Life of each unit then; 0: it falls.
type fought struct {
	name, text string
	units      []api.Unit
	strikes    []struck
	lives      []int
}

// want is what comes of a world, and what is told.
func (c fought) want(w api.World) (api.World, []api.Event) {
	units := w.Units
	w = copied(w)
	w.Units = nil
	var events []api.Event
	for _, s := range c.strikes {
		events = append(events, api.Event{What: 2, Unit: units[s.by].Id, Arg: units[s.who].Id})
	}
	for i, u := range units {
		if u.Life = c.lives[i]; u.Life > 0 {
			w.Units = append(w.Units, u)
		} else {
			events = append(events, api.Event{What: 3, Unit: u.Id})
		}
	}
	return w, events
}

func (c fought) hold(t *testing.T) {
	t.Helper()
	w := scene(t, c.text, c.units...)
	want, told := c.want(w)
	got, events, err := fight.Fight(sorts(), w)
	if !alike(got, want) || !slices.Equal(events, told) || err != nil {
		t.Errorf("%s: got %v, %v, %v; want %v, %v", c.name, got, events, err, want, told)
	}
	right(t, sorts(), got)
}

// TestFight: B2, each loses as much Life as all Hits on it; a fighter's is 4, a bird's 3, a tower's 5, a bow's 2.
func TestFight(t *testing.T) {
	for _, c := range []fought{
		{"nobody", plains(3, 1), nil, nil, nil},
		{"one alone", plains(3, 1), []api.Unit{own(fighter, 0, 5)}, nil, []int{5}},
		{"nobody near", plains(5, 1), []api.Unit{own(fighter, 0, 5), foe(fighter, 4, 5)}, nil, []int{5, 5}},
		{"of one player", plains(3, 1), []api.Unit{own(fighter, 0, 5), own(fighter, 1, 5)}, nil, []int{5, 5}},
		{"none that strikes", plains(3, 1), []api.Unit{own(digger, 0, 5), foe(base, 1, 5)}, nil, []int{5, 5}},
		{"two that strike each other", plains(3, 1), []api.Unit{own(fighter, 0, 20), foe(fighter, 1, 9)}, []struck{{0, 1}, {1, 0}}, []int{16, 5}},
		{"one strikes one that strikes not", plains(3, 1), []api.Unit{own(fighter, 0, 5), foe(digger, 1, 9)}, []struck{{0, 1}}, []int{5, 5}},
		{"the second one strikes", plains(3, 1), []api.Unit{own(digger, 0, 9), foe(fighter, 1, 5)}, []struck{{1, 0}}, []int{5, 5}},
		{"one strikes farther", plains(3, 1), []api.Unit{own(fighter, 0, 9), foe(bird, 2, 5)}, []struck{{1, 0}}, []int{6, 5}},
		{"loses just all", plains(3, 1), []api.Unit{own(fighter, 0, 5), foe(digger, 1, 4)}, []struck{{0, 1}}, []int{5, 0}},
		{"loses more than it has", plains(3, 1), []api.Unit{own(fighter, 0, 5), foe(digger, 1, 1)}, []struck{{0, 1}}, []int{5, 0}},
		{"keeps 1", plains(3, 1), []api.Unit{own(fighter, 0, 5), foe(digger, 1, 5)}, []struck{{0, 1}}, []int{5, 1}},
		{"loses all that there can be", plains(3, 1), []api.Unit{own(giant, 0, 5), foe(giant, 1, 1000)}, []struck{{0, 1}, {1, 0}}, []int{0, 0}},
		{"several strike one", plains(3, 1), []api.Unit{own(fighter, 0, 5), foe(base, 1, 50), own(fighter, 2, 5)}, []struck{{0, 1}, {2, 1}}, []int{5, 42, 5}},
		{"several kinds strike one", plains(3, 2), []api.Unit{own(fighter, 0, 5), foe(base, 1, 50), own(bird, 3, 5), own(tower, 2, 5)}, []struck{{0, 1}, {2, 1}, {3, 1}}, []int{5, 38, 5, 5}},
		{"two players strike one", plains(3, 1), []api.Unit{own(fighter, 0, 5), foe(base, 1, 50), of(2, own(fighter, 2, 5))}, []struck{{0, 1}, {2, 1}}, []int{5, 42, 5}},
		{"several make just all together", plains(3, 1), []api.Unit{own(fighter, 0, 5), foe(base, 1, 8), own(fighter, 2, 5)}, []struck{{0, 1}, {2, 1}}, []int{5, 0, 5}},
		{"several leave 1", plains(3, 1), []api.Unit{own(fighter, 0, 5), foe(base, 1, 9), own(fighter, 2, 5)}, []struck{{0, 1}, {2, 1}}, []int{5, 1, 5}},
		{"the first would have been enough", plains(3, 1), []api.Unit{own(fighter, 0, 5), foe(base, 1, 4), own(fighter, 2, 5)}, []struck{{0, 1}, {2, 1}}, []int{5, 0, 5}},
		{"falls and strikes", plains(3, 1), []api.Unit{own(fighter, 0, 20), foe(fighter, 1, 4)}, []struck{{0, 1}, {1, 0}}, []int{16, 0}},
		{"both fall", plains(3, 1), []api.Unit{own(fighter, 0, 4), foe(fighter, 1, 3)}, []struck{{0, 1}, {1, 0}}, []int{0, 0}},
		{"one that falls strikes a third one", plains(4, 1), []api.Unit{own(bow, 0, 9), foe(bird, 1, 2), of(2, own(digger, 2, 1))}, []struck{{0, 1}, {1, 2}}, []int{9, 0, 0}},
	} {
		c.hold(t)
	}
}

// TestFightAtOnce: B2, all choose as the world is before the first strikes, and first all strikes are told, then all that fall, in the order of the units.
func TestFightAtOnce(t *testing.T) {
	for _, c := range []fought{
		{"the second chooses by the Life that was", plains(3, 2), []api.Unit{own(fighter, 0, 5), own(fighter, 2, 5), foe(digger, 1, 6), foe(digger, 5, 5)},
			[]struck{{0, 2}, {1, 3}}, []int{5, 5, 2, 1}},
		{"the second spares not who has fallen", plains(4, 1), []api.Unit{own(tower, 0, 5), own(tower, 1, 5), foe(digger, 2, 3), foe(digger, 3, 3)},
			[]struck{{0, 2}, {1, 2}}, []int{5, 5, 0, 3}},
		{"all strike the first of two alike", plains(3, 3), []api.Unit{own(fighter, 0, 5), own(fighter, 2, 5), foe(digger, 4, 9), own(fighter, 6, 5), foe(digger, 5, 9)},
			[]struck{{0, 2}, {1, 2}, {3, 2}}, []int{5, 5, 0, 5, 9}},
		{"several fall, and one between them stays", plains(5, 1), []api.Unit{own(fighter, 0, 4), foe(fighter, 1, 4), own(digger, 2, 10), foe(bow, 3, 2), own(fighter, 4, 2)},
			[]struck{{0, 1}, {1, 0}, {3, 4}, {4, 3}}, []int{0, 0, 10, 0, 0}},
		{"the last falls alone", plains(3, 1), []api.Unit{own(digger, 2, 5), own(fighter, 0, 5), foe(digger, 1, 2)},
			[]struck{{1, 2}}, []int{5, 5, 0}},
		{"the first falls alone", plains(3, 1), []api.Unit{foe(digger, 1, 2), own(fighter, 0, 5), own(digger, 2, 5)},
			[]struck{{1, 0}}, []int{0, 5, 5}},
		{"of three players, each strikes the next", plains(3, 1), []api.Unit{own(fighter, 0, 5), foe(fighter, 1, 5), of(2, own(fighter, 2, 4))},
			[]struck{{0, 1}, {1, 2}, {2, 1}}, []int{5, 0, 0}},
	} {
		c.hold(t)
	}
}

// TestFightKeeps: B2, but for Life nothing becomes of those that stay; one that falls takes its Load with it, and gives its id to nobody.
func TestFightKeeps(t *testing.T) {
	busy := api.Unit{Kind: bird, At: 4, Life: 8, Load: 3, Task: api.Gather, Goal: 2}
	gone := of(1, api.Unit{Kind: digger, At: 3, Life: 3, Load: 20, Task: api.March, Goal: 5})
	struckOne := of(1, api.Unit{Kind: fighter, At: 1, Life: 17, Task: api.March, Goal: 0})
	fought{"busy ones", "..9\n3~.\n", []api.Unit{struckOne, busy, gone, of(1, own(base, 2, 30))}, []struck{{0, 1}, {1, 2}}, []int{17, 4, 0, 30}}.hold(t)
}

// job is one of a player at the unit of an index.
func job(player, unit, kind, left int) api.Job {
	return api.Job{Player: player, Unit: idOf(unit), Kind: kind, Left: left}
}

// TestFightJobs: B2, jobs of units that fall are gone, the others stay as they are, in their order.
func TestFightJobs(t *testing.T) {
	// The base 1 falls by the fighter 0, the tower 3 by the fighter 4; the base 2 stays, and the tower 5.
	units := []api.Unit{own(fighter, 0, 20), foe(base, 1, 4), own(base, 3, 50), own(tower, 11, 4), foe(fighter, 10, 20), foe(tower, 5, 60)}
	falls, others := job(1, 1, digger, 1), job(0, 2, bird, 3)
	for _, c := range []struct{ queue, left []api.Job }{
		{nil, nil},
		{[]api.Job{falls}, nil},
		{[]api.Job{others}, []api.Job{others}},
		{[]api.Job{falls, others}, []api.Job{others}},
		{[]api.Job{others, falls}, []api.Job{others}},
		{[]api.Job{falls, falls, falls}, nil},
		{[]api.Job{job(0, 3, base, 7), falls}, nil},
		{[]api.Job{falls, others, job(1, 1, base, 9), job(1, 5, digger, 1000), job(0, 3, bow, 2), others, falls}, []api.Job{others, job(1, 5, digger, 1000), others}},
		{slices.Repeat([]api.Job{others}, api.MaxQueue), slices.Repeat([]api.Job{others}, api.MaxQueue)},
		{slices.Repeat([]api.Job{falls}, api.MaxQueue), nil},
		{slices.Repeat([]api.Job{others, falls}, api.MaxQueue/2), slices.Repeat([]api.Job{others}, api.MaxQueue/2)},
	} {
		w := scene(t, plains(6, 2), units...)
		w.Queue = c.queue
		right(t, sorts(), w)
		got, events, err := fight.Fight(sorts(), w)
		if !slices.Equal(got.Queue, c.left) || len(got.Units) != 4 || err != nil {
			t.Errorf("%v: got %v, %v, %v, %v; want %v", c.queue, got.Queue, got.Units, events, err, c.left)
		}
		right(t, sorts(), got)
	}
}

// TestFightAll: B2, as many as there may be strike one, by the greatest Hit, and it strikes the first of the nearest.
func TestFightAll(t *testing.T) {
	k := sorts()
	k[giant].Range = api.MaxSide
	units := []api.Unit{foe(giant, 66, 1000)}
	for i := range api.MaxUnits - 1 {
		units = append(units, own(giant, i, 1000))
	}
	w := scene(t, plains(12, 12), units...)
	got, events, err := fight.Fight(k, w)
	// The one stands in column 6 of row 5; the others' cells end in column 2 of row 3. The cells 28 to 32, of row 2, are the nearest, all 3 away, and on the first of these is the unit 29.
	near := 29
	if err != nil || len(got.Units) != api.MaxUnits-2 || len(events) != api.MaxUnits+2 {
		t.Fatalf("got %v, %v, %v", got.Units, events, err)
	}
	if (events[0] != api.Event{What: api.Struck, Unit: idOf(0), Arg: idOf(near)}) {
		t.Errorf("the one struck %v", events[0])
	}
	for i, e := range events[1:api.MaxUnits] {
		if (e != api.Event{What: api.Struck, Unit: idOf(i + 1), Arg: idOf(0)}) {
			t.Errorf("unit %d: got %v", i+1, e)
		}
	}
	if fallen := []api.Event{{What: api.Fell, Unit: idOf(0)}, {What: api.Fell, Unit: idOf(near)}}; !slices.Equal(events[api.MaxUnits:], fallen) {
		t.Errorf("got %v, want %v", events[api.MaxUnits:], fallen)
	}
	right(t, k, got)
}

// TestFightAgain: B2, turn by turn, until one has fallen; then nobody strikes any more.
func TestFightAgain(t *testing.T) {
	w := scene(t, plains(3, 1), own(fighter, 0, 20), foe(bird, 2, 8), foe(fighter, 1, 11))
	for turn, want := range []struct {
		lives  []int
		events int
	}{{[]int{13, 8, 7}, 3}, {[]int{6, 8, 3}, 3}, {[]int{8}, 5}, {[]int{8}, 0}} {
		got, events, err := fight.Fight(sorts(), w)
		var lives []int
		for _, u := range got.Units {
			lives = append(lives, u.Life)
		}
		if !slices.Equal(lives, want.lives) || len(events) != want.events || err != nil {
			t.Errorf("turn %d: got %v, %v, %v; want %v", turn, lives, events, err, want)
		}
		if got.Turn != w.Turn || got.Next != w.Next || !slices.Equal(got.Gold, w.Gold) {
			t.Errorf("turn %d: got %v", turn, got)
		}
		w = got
	}
}
