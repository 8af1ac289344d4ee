package move_test

import (
	"slices"
	"testing"

	"marchland/api"
	"marchland/move"
	"marchland/world"
)

func copied(w api.World) api.World {
	w.Field.Ground, w.Field.Ore = slices.Clone(w.Field.Ground), slices.Clone(w.Field.Ore)
	w.Gold, w.Units, w.Queue = slices.Clone(w.Gold), slices.Clone(w.Units), slices.Clone(w.Queue)
	return w
}

func alike(a, b api.World) bool {
	return a.Turn == b.Turn && a.Next == b.Next && a.Field.Wide == b.Field.Wide && a.Field.High == b.Field.High &&
		slices.Equal(a.Field.Ground, b.Field.Ground) && slices.Equal(a.Field.Ore, b.Field.Ore) &&
		slices.Equal(a.Gold, b.Gold) && slices.Equal(a.Units, b.Units) && slices.Equal(a.Queue, b.Queue)
}

// track is the cells onto which the unit of an index goes.
type track struct {
	unit  int
	cells []int
}

// moves of all units of a scene, in the order in which they come, and which units rest then at their Goal.
type moves struct {
	name, text string
	units      []api.Unit
	tracks     []track
	rests      []int
}

func (c moves) hold(t *testing.T) {
	t.Helper()
	w := scene(t, c.text, c.units...)
	want := copied(w)
	var told []api.Event
	for _, l := range c.tracks {
		for _, at := range l.cells {
			told = append(told, api.Event{What: api.Moved, Unit: idOf(l.unit), Arg: at})
			want.Units[l.unit].At = at
		}
	}
	for _, i := range c.rests {
		want.Units[i].Task, want.Units[i].Goal = api.Rest, 0
	}
	got, events, err := move.Move(sorts(), w)
	if !alike(got, want) || !slices.Equal(events, told) || err != nil {
		t.Errorf("%s: got %v, %v, %v; want %v, %v", c.name, got.Units, events, err, want.Units, told)
	}
	if err := world.Check(sorts(), got); err != nil {
		t.Errorf("%s: Check says %v of what comes", c.name, err)
	}
}

// on is a track of the unit 0.
func on(cells ...int) []track { return []track{{0, cells}} }

// TestMoveSpeed: V2, a Speed that is just enough for a step, one less, and enough for several.
func TestMoveSpeed(t *testing.T) {
	for _, c := range []moves{
		{"0", "......\n", []api.Unit{marching(base, 0, 5)}, nil, nil},
		{"1", "......\n", []api.Unit{marching(wagon, 0, 5)}, on(1), nil},
		{"2", "......\n", []api.Unit{marching(fighter, 0, 5)}, on(1, 2), nil},
		{"3", "......\n", []api.Unit{marching(runner, 0, 5)}, on(1, 2, 3), nil},
		{"4", "......\n", []api.Unit{marching(rider, 0, 5)}, on(1, 2, 3, 4), nil},
		{"3, flying", "......\n", []api.Unit{marching(bird, 0, 5)}, on(1, 2, 3), nil},
		{"4, flying", "......\n", []api.Unit{marching(ark, 0, 5)}, on(1, 2, 3, 4), nil},
		{"1, onto forest", ".^....\n", []api.Unit{marching(wagon, 0, 5)}, nil, nil},
		{"2, onto forest", ".^....\n", []api.Unit{marching(fighter, 0, 5)}, on(1), nil},
		{"3, onto forest", ".^....\n", []api.Unit{marching(runner, 0, 5)}, on(1, 2), nil},
		{"4, onto forest", ".^....\n", []api.Unit{marching(rider, 0, 5)}, on(1, 2, 3), nil},
		{"2, onto the second cell that is forest", "..^...\n", []api.Unit{marching(fighter, 0, 5)}, on(1), nil},
		{"3, onto the second cell that is forest", "..^...\n", []api.Unit{marching(runner, 0, 5)}, on(1, 2), nil},
		{"3, onto two forests", ".^^...\n", []api.Unit{marching(runner, 0, 5)}, on(1), nil},
		{"4, onto two forests", ".^^...\n", []api.Unit{marching(rider, 0, 5)}, on(1, 2), nil},
		{"4, onto the fourth cell that is forest", "....^.\n", []api.Unit{marching(rider, 0, 5)}, on(1, 2, 3), nil},
		{"3, flying over forests and water", ".^~^..\n", []api.Unit{marching(bird, 0, 5)}, on(1, 2, 3), nil},
		{"the forest where it stands is no matter", "^.....\n", []api.Unit{marching(wagon, 0, 5)}, on(1), nil},
		{"what is left is not kept for a detour", "..^...\n......\n", []api.Unit{marching(fighter, 0, 3)}, on(1), nil},
		{"round corners", "..#\n#..\n##.\n", []api.Unit{marching(rider, 0, 8)}, on(1, 4, 5, 8), []int{0}},
		{"back to the cell 0", "......\n", []api.Unit{marching(fighter, 5, 0)}, on(4, 3), nil},
	} {
		c.hold(t)
	}
}

// TestMoveGoal: V2, one that marches and comes to its Goal, or stands there already; one that gathers goes on to gather.
func TestMoveGoal(t *testing.T) {
	for _, c := range []moves{
		{"comes there", "......\n", []api.Unit{marching(fighter, 0, 2)}, on(1, 2), []int{0}},
		{"comes there with Speed left", "......\n", []api.Unit{marching(rider, 0, 1)}, on(1), []int{0}},
		{"comes to the cell 0", "......\n", []api.Unit{marching(fighter, 2, 0)}, on(1, 0), []int{0}},
		{"is one cell short", "......\n", []api.Unit{marching(fighter, 0, 3)}, on(1, 2), nil},
		{"stands there already", "......\n", []api.Unit{marching(fighter, 3, 3)}, nil, []int{0}},
		{"stands there already, with Speed 0", "......\n", []api.Unit{marching(base, 3, 3)}, nil, []int{0}},
		{"stands at the cell 0 already", "......\n", []api.Unit{marching(fighter, 0, 0)}, nil, []int{0}},
		{"marches to the cell 0, and is not there", "#.....\n", []api.Unit{marching(fighter, 3, 0)}, nil, nil},
		{"has no way", "...#..\n", []api.Unit{marching(fighter, 0, 5)}, nil, nil},
		{"comes there with all it can carry", "......\n", []api.Unit{{Kind: digger, At: 0, Load: 20, Task: api.March, Goal: 2}, resting(base, 5)}, on(1, 2), []int{0}},
		{"comes there to gather", ".9....\n", []api.Unit{gathering(digger, 0, 1, 0)}, on(1), nil},
		{"is there to gather", ".9....\n", []api.Unit{gathering(digger, 1, 1, 0)}, nil, nil},
		{"is there to gather at the cell 0", "9.....\n", []api.Unit{gathering(digger, 0, 0, 0)}, nil, nil},
		{"rests", "......\n", []api.Unit{resting(fighter, 0), resting(rider, 3)}, nil, nil},
		{"two come there", "......\n", []api.Unit{marching(fighter, 0, 2), marching(fighter, 5, 3)}, []track{{0, []int{1, 2}}, {1, []int{4, 3}}}, []int{0, 1}},
	} {
		c.hold(t)
	}
}

// TestMoveHome: V2, of one that gathers: it stops beside who trains, and leaves again when there is room.
func TestMoveHome(t *testing.T) {
	for _, c := range []moves{
		{"with all it can carry", "....9\n", []api.Unit{gathering(digger, 4, 4, 20), resting(base, 0)}, on(3, 2), nil},
		{"stops beside who trains", "....9\n", []api.Unit{gathering(digger, 2, 4, 20), resting(base, 0)}, on(1), nil},
		{"stands beside who trains", "....9\n", []api.Unit{gathering(digger, 1, 4, 20), resting(base, 0)}, nil, nil},
		{"no ore any more", ".....\n", []api.Unit{gathering(digger, 4, 4, 3), resting(base, 0)}, on(3, 2), nil},
		{"has brought it", "....9\n", []api.Unit{gathering(digger, 1, 4, 0), resting(base, 0)}, on(2, 3), nil},
		{"nobody trains", "....9\n", []api.Unit{gathering(digger, 2, 4, 20), of(1, resting(base, 0))}, nil, nil},
		{"trains itself", "....9\n", []api.Unit{gathering(wagon, 2, 4, 10), resting(base, 0)}, nil, nil},
		{"no more than the nearest, even if another one is free to come to", "......9\n", []api.Unit{gathering(digger, 3, 6, 20), resting(fighter, 2), resting(base, 1), resting(base, 6)}, nil, nil},
		{"who trains has gone away", "9......\n", []api.Unit{marching(ark, 1, 6), gathering(digger, 0, 0, 20)}, []track{{0, []int{2, 3, 4, 5}}, {1, []int{1, 2}}}, nil},
		{"who trains has come near", "9......\n", []api.Unit{marching(ark, 6, 2), gathering(digger, 0, 0, 20)}, []track{{0, []int{5, 4, 3, 2}}, {1, []int{1}}}, []int{0}},
		{"who trains goes away then", "9......\n", []api.Unit{gathering(digger, 0, 0, 20), marching(ark, 2, 6)}, []track{{0, []int{1}}, {1, []int{3, 4, 5, 6}}}, []int{1}},
		{"another one has come nearer", "......9.....\n", []api.Unit{marching(ark, 11, 8), resting(base, 3), gathering(digger, 6, 6, 20)}, []track{{0, []int{10, 9, 8}}, {2, []int{7}}}, []int{0}},
	} {
		c.hold(t)
	}
}

// TestMoveOrder: V2, units in their order: one steps where another one has just been, or stands in another's way.
func TestMoveOrder(t *testing.T) {
	for _, c := range []moves{
		{"behind one that has gone", "......\n", []api.Unit{marching(fighter, 1, 5), marching(fighter, 0, 5)}, []track{{0, []int{2, 3}}, {1, []int{1, 2}}}, nil},
		{"ahead of one that goes later", "......\n", []api.Unit{marching(fighter, 0, 5), marching(fighter, 1, 5)}, []track{{1, []int{2, 3}}}, nil},
		{"a row, the first first", "......\n", []api.Unit{marching(wagon, 2, 5), marching(wagon, 1, 5), marching(wagon, 0, 5)}, []track{{0, []int{3}}, {1, []int{2}}, {2, []int{1}}}, nil},
		{"a row, the last first", "......\n", []api.Unit{marching(wagon, 0, 5), marching(wagon, 1, 5), marching(wagon, 2, 5)}, []track{{2, []int{3}}}, nil},
		{"no way round who stands there", "......\n......\n", []api.Unit{marching(rider, 0, 5), resting(base, 2)}, on(1), nil},
		{"another player's in the way", "......\n", []api.Unit{marching(rider, 0, 5), of(1, resting(base, 2))}, on(1), nil},
		{"who goes does not pass below who flies", "......\n", []api.Unit{marching(rider, 0, 5), of(2, resting(bird, 2))}, on(1), nil},
		{"who flies does not pass above who goes", "......\n", []api.Unit{marching(bird, 0, 5), resting(fighter, 2)}, on(1), nil},
		{"one at once in the way", "......\n", []api.Unit{marching(rider, 0, 5), resting(base, 1)}, nil, nil},
		{"one at its Goal", "......\n", []api.Unit{marching(rider, 0, 3), resting(base, 3)}, on(1, 2), nil},
		{"both to one cell", "......\n", []api.Unit{marching(fighter, 1, 3), marching(fighter, 5, 3)}, []track{{0, []int{2, 3}}, {1, []int{4}}}, []int{0}},
		{"no change of places", "......\n", []api.Unit{marching(fighter, 2, 3), marching(fighter, 3, 2)}, nil, nil},
		{"towards each other", "......\n", []api.Unit{marching(fighter, 0, 5), marching(fighter, 5, 0)}, []track{{0, []int{1, 2}}, {1, []int{4, 3}}}, nil},
		{"where one has been on its way", "......\n......\n", []api.Unit{marching(rider, 1, 11), marching(fighter, 0, 3)}, []track{{0, []int{2, 3, 4, 5}}, {1, []int{1, 2}}}, nil},
		{"round a ring, the second steps where the first was", "..\n..\n", []api.Unit{marching(wagon, 0, 1), marching(wagon, 2, 0), marching(wagon, 3, 2)}, []track{{0, []int{1}}, {1, []int{0}}, {2, []int{2}}}, []int{0, 1, 2}},
		{"one that rests ahead moves not, one behind does", "......\n", []api.Unit{resting(fighter, 5), marching(fighter, 0, 4)}, []track{{1, []int{1, 2}}}, nil},
	} {
		c.hold(t)
	}
}

// TestMoveNobody: V2, of a world without units, and of one without kinds.
func TestMoveNobody(t *testing.T) {
	moves{"nobody", "9.\n", nil, nil, nil}.hold(t)
	w := api.World{Next: 1, Field: api.Field{Wide: 1, High: 1, Ground: []int{0}, Ore: []int{0}}, Gold: []int{0}}
	if got, events, err := move.Move(nil, w); !alike(got, w) || len(events) > 0 || err != nil {
		t.Errorf("no kinds: got %v, %v, %v", got, events, err)
	}
}

// TestMoveAgain: V2, turn by turn: each time by what the world is then, until all rest, and then nothing comes any more.
func TestMoveAgain(t *testing.T) {
	w := scene(t, "....\n.##.\n....\n", marching(fighter, 0, 11), marching(wagon, 8, 9))
	for turn, want := range [][]int{{2, 9}, {7, 9}, {11, 9}, {11, 9}} {
		var err error
		if w, _, err = move.Move(sorts(), w); err != nil {
			t.Fatalf("turn %d: %v", turn, err)
		}
		if got := []int{w.Units[0].At, w.Units[1].At}; !slices.Equal(got, want) {
			t.Errorf("turn %d: got %v, want %v", turn, got, want)
		}
	}
	for i, u := range w.Units {
		if u.Task != api.Rest || u.Goal != 0 {
			t.Errorf("unit %d: got %v", i, u)
		}
	}
	if w.Turn != 6 {
		t.Errorf("Turn became %d", w.Turn)
	}
}
