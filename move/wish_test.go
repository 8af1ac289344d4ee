package move_test

import (
	"testing"

	"marchland/api"
	"marchland/field"
	"marchland/move"
	"marchland/world"
)

// Numbers of the kinds.
const (
	base = iota
	digger
	fighter
	bird
	wagon
	ark
	rider
	runner
)

func sorts() []api.Kind {
	return []api.Kind{
		{Name: "base", Life: 50, Sight: 4, Price: 50, Turns: 5, Trains: true},
		{Name: "digger", Life: 10, Sight: 3, Speed: 2, Price: 10, Turns: 2, Carry: 20},
		{Name: "fighter", Life: 20, Hit: 4, Range: 1, Sight: 4, Speed: 2, Price: 20, Turns: 3},
		{Name: "bird", Life: 8, Hit: 3, Range: 2, Sight: 5, Speed: 3, Price: 25, Turns: 3, Carry: 5, Flies: true},
		{Name: "wagon", Life: 30, Speed: 1, Price: 40, Turns: 4, Carry: 10, Trains: true},
		{Name: "ark", Life: 40, Speed: 4, Price: 90, Turns: 9, Carry: 7, Flies: true, Trains: true},
		{Name: "rider", Life: 12, Speed: 4, Price: 30},
		{Name: "runner", Life: 12, Speed: 3, Price: 15, Carry: 3},
	}
}

// idOf the i-th unit of a scene: never its index.
func idOf(i int) int { return 2*i + 3 }

// scene is a world of three players on the field of a text, with these units, by their ids.
func scene(t *testing.T, text string, units ...api.Unit) api.World {
	t.Helper()
	f, at, err := field.Parse(text)
	if err != nil {
		t.Fatalf("Parse(%q): %v at %d", text, err, at)
	}
	w := api.World{Turn: 6, Next: 90, Field: f, Gold: []int{5, 0, 70}}
	for i, u := range units {
		u.Id, u.Life = idOf(i), 3
		w.Units = append(w.Units, u)
	}
	if err := world.Check(sorts(), w); err != nil {
		t.Fatalf("%q with %v: %v", text, units, err)
	}
	return w
}

// resting is a unit of player 0.
func resting(kind, at int) api.Unit { return api.Unit{Kind: kind, At: at} }

func marching(kind, at, goal int) api.Unit {
	return api.Unit{Kind: kind, At: at, Task: api.March, Goal: goal}
}

func gathering(kind, at, goal, load int) api.Unit {
	return api.Unit{Kind: kind, At: at, Task: api.Gather, Goal: goal, Load: load}
}

// of is a unit as another player has it.
func of(player int, u api.Unit) api.Unit {
	u.Player = player
	return u
}

// wishes of the first unit of a scene.
type wishes struct {
	name, text string
	units      []api.Unit
	want       int
}

func (c wishes) hold(t *testing.T) {
	got, err := move.Wish(sorts(), scene(t, c.text, c.units...), 0)
	if got != c.want || err != nil {
		t.Errorf("%s: got %d, %v; want %d", c.name, got, err, c.want)
	}
}

// TestWishOfRest: V1, its own cell, of each kind, wherever it is, and whatever it carries.
func TestWishOfRest(t *testing.T) {
	for kind, k := range sorts() {
		for _, at := range []int{0, 1, 4, 5} {
			u := api.Unit{Kind: kind, At: at, Load: k.Carry}
			wishes{"rest of " + k.Name, "..^\n#95\n", []api.Unit{u, resting(base, 2)}, at}.hold(t)
		}
	}
}

// TestWishOfMarch: V1, over a way, without one, and at its Goal.
func TestWishOfMarch(t *testing.T) {
	for _, c := range []wishes{
		{"a cell beside", "..\n", []api.Unit{marching(fighter, 0, 1)}, 1},
		{"of two ways the one that begins up", "...\n...\n...\n", []api.Unit{marching(fighter, 4, 0)}, 1},
		{"of two ways the one that begins left", "...\n...\n...\n", []api.Unit{marching(fighter, 4, 6)}, 3},
		{"of two ways the one that begins right", "...\n...\n...\n", []api.Unit{marching(fighter, 4, 8)}, 5},
		{"down alone", "...\n...\n...\n", []api.Unit{marching(fighter, 4, 7)}, 7},
		{"to the cell 0", "....\n", []api.Unit{marching(fighter, 3, 0)}, 2},
		{"round a rock", ".#.\n...\n", []api.Unit{marching(fighter, 0, 2)}, 3},
		{"one who flies, round a rock", ".#.\n...\n", []api.Unit{marching(bird, 0, 2)}, 3},
		{"round water", ".~.\n...\n", []api.Unit{marching(fighter, 0, 2)}, 3},
		{"one who flies, over water", ".~.\n...\n", []api.Unit{marching(bird, 0, 2)}, 1},
		{"round forests", ".^^^.\n.....\n", []api.Unit{marching(fighter, 0, 4)}, 5},
		{"through forests, as far as round them", ".^^.\n....\n", []api.Unit{marching(fighter, 0, 3)}, 1},
		{"one who flies, over forests", ".^^^.\n.....\n", []api.Unit{marching(bird, 0, 4)}, 1},
		{"who stands in a way is no matter", "....\n....\n", []api.Unit{marching(fighter, 0, 3), resting(base, 1)}, 1},
		{"who stands at its Goal is no matter", "...\n", []api.Unit{marching(fighter, 0, 2), of(1, resting(base, 2))}, 1},
		{"one of Speed 0 wishes too", "...\n", []api.Unit{marching(base, 0, 2)}, 1},
		{"a forest that is too far for its Speed", ".^.\n", []api.Unit{marching(wagon, 0, 2)}, 1},
		{"with a Load, no matter who trains", "...\n", []api.Unit{{Kind: digger, At: 1, Load: 20, Task: api.March, Goal: 2}, resting(base, 0)}, 2},
		{"no way over water", ".~.\n", []api.Unit{marching(fighter, 0, 2)}, 0},
		{"no way onto water", ".~.\n", []api.Unit{marching(fighter, 2, 1)}, 2},
		{"one who flies, onto water", ".~.\n", []api.Unit{marching(bird, 2, 1)}, 1},
		{"no way onto rock", "...\n.#.\n...\n", []api.Unit{marching(bird, 7, 4)}, 7},
		{"no way through a wall", "..#.\n..#.\n", []api.Unit{marching(bird, 5, 7)}, 5},
		{"no way, and one who trains", "..#.\n", []api.Unit{marching(digger, 1, 3), resting(base, 0)}, 1},
		{"at its Goal", "...\n", []api.Unit{marching(fighter, 1, 1)}, 1},
		{"at its Goal 0", "...\n", []api.Unit{marching(fighter, 0, 0)}, 0},
		{"at its Goal with all it can carry", "...\n", []api.Unit{{Kind: digger, At: 1, Load: 20, Task: api.March, Goal: 1}, resting(base, 0)}, 1},
		{"at its Goal, enclosed", ".#.\n#.#\n.#.\n", []api.Unit{marching(fighter, 4, 4)}, 4},
	} {
		c.hold(t)
	}
}

// TestWishOfGather: V1, with ore at its Goal and room to carry: as one that marches, no matter who trains.
func TestWishOfGather(t *testing.T) {
	for _, c := range []wishes{
		{"on its way", "....9\n", []api.Unit{gathering(digger, 1, 4, 0), resting(base, 0)}, 2},
		{"room for one more", "....9\n", []api.Unit{gathering(digger, 1, 4, 19), resting(base, 0)}, 2},
		{"at its Goal", "....9\n", []api.Unit{gathering(digger, 4, 4, 0), resting(base, 0)}, 4},
		{"at its Goal, room for one more", "....9\n", []api.Unit{gathering(digger, 4, 4, 19), resting(base, 0)}, 4},
		{"at its Goal 0", "9....\n", []api.Unit{gathering(digger, 0, 0, 0), resting(base, 4)}, 0},
		{"to its Goal 0", "9....\n", []api.Unit{gathering(digger, 2, 0, 0), resting(base, 4)}, 1},
		{"who trains and has room", "....9\n", []api.Unit{gathering(wagon, 1, 4, 9), resting(base, 0)}, 2},
		{"no way", ".#9\n", []api.Unit{gathering(digger, 0, 2, 0)}, 0},
		{"no way, though there is one to who trains", "..#9\n", []api.Unit{gathering(digger, 1, 3, 19), resting(base, 0)}, 1},
		{"over water", ".~9\n...\n", []api.Unit{gathering(bird, 0, 2, 4)}, 1},
		{"round water", ".~9\n...\n", []api.Unit{gathering(digger, 0, 2, 4)}, 3},
		{"ore at another's Goal", "9...9\n", []api.Unit{gathering(digger, 2, 4, 0), gathering(digger, 1, 0, 0)}, 3},
	} {
		c.hold(t)
	}
	for ore := range 3 {
		w := scene(t, "...9\n", gathering(digger, 1, 3, 0), resting(base, 0))
		w.Field.Ore[3] = ore
		if got, err := move.Wish(sorts(), w, 0); got != []int{0, 2, 2}[ore] || err != nil {
			t.Errorf("ore %d: got %d, %v", ore, got, err)
		}
	}
}

// TestWishHome: V1, one that has all it can carry, and one at whose Goal there is no ore.
func TestWishHome(t *testing.T) {
	for _, c := range []wishes{
		{"all it can carry, at its Goal", "...9\n", []api.Unit{gathering(digger, 3, 3, 20), resting(base, 0)}, 2},
		{"all it can carry, on its way", "...9\n", []api.Unit{gathering(digger, 2, 3, 20), resting(base, 0)}, 1},
		{"no ore, nothing to bring", "....\n", []api.Unit{gathering(digger, 2, 3, 0), resting(base, 0)}, 1},
		{"no ore, at its Goal", "....\n", []api.Unit{gathering(digger, 3, 3, 7), resting(base, 0)}, 2},
		{"no ore at its Goal 0", "...9\n", []api.Unit{gathering(digger, 1, 0, 7), resting(base, 3)}, 2},
		{"ore where it stands, none at its Goal", "..9.\n", []api.Unit{gathering(digger, 2, 3, 7), resting(base, 0)}, 1},
		{"all it can carry, and no ore", "....\n", []api.Unit{gathering(digger, 2, 3, 20), resting(base, 0)}, 1},
		{"its Goal is rock", "...#\n", []api.Unit{gathering(digger, 2, 3, 0), resting(base, 0)}, 1},
		{"its Goal is water", "...~\n", []api.Unit{gathering(bird, 2, 3, 0), resting(base, 0)}, 1},
		{"one that can carry nothing", "...9\n", []api.Unit{gathering(fighter, 2, 3, 0), resting(base, 0)}, 1},
		{"beside who trains", "...9\n", []api.Unit{gathering(digger, 1, 3, 20), resting(base, 0)}, 0},
		{"who trains goes itself", "...9\n", []api.Unit{gathering(digger, 2, 3, 20), marching(wagon, 0, 3)}, 1},
		{"round water", ".~.9\n....\n", []api.Unit{gathering(digger, 2, 3, 20), resting(base, 0)}, 6},
		{"over water", ".~.9\n....\n", []api.Unit{gathering(bird, 2, 3, 5), resting(base, 0)}, 1},
	} {
		c.hold(t)
	}
}

// TestWishHomeNearest: V1, of several that train the nearest, by ways from where the unit is; of equal ones the first.
func TestWishHomeNearest(t *testing.T) {
	full := func(kind, at, goal int) api.Unit { return gathering(kind, at, goal, sorts()[kind].Carry) }
	for _, c := range []wishes{
		{"the second is nearer", "......\n", []api.Unit{full(digger, 3, 5), resting(base, 0), resting(base, 5)}, 4},
		{"the first is nearer", "......\n", []api.Unit{full(digger, 2, 5), resting(base, 0), resting(base, 5)}, 1},
		{"as far: the first, left", ".....\n", []api.Unit{full(digger, 2, 4), resting(base, 0), resting(base, 4)}, 1},
		{"as far: the first, right", ".....\n", []api.Unit{full(digger, 2, 4), resting(base, 4), resting(base, 0)}, 3},
		{"as far: the first of four", "..#..\n.....\n..#..\n", []api.Unit{full(digger, 7, 4), resting(base, 14), resting(base, 0), resting(base, 4), resting(base, 10)}, 8},
		{"as far, and one that is nearer behind", "......\n......\n", []api.Unit{full(digger, 8, 0), resting(base, 6), resting(base, 10), resting(base, 2)}, 2},
		{"a way, not a line: a wall", "..#...\n..#...\n......\n", []api.Unit{full(digger, 1, 5), resting(base, 3), resting(base, 12)}, 0},
		{"forest is twice as far", ".^..\n", []api.Unit{full(digger, 2, 3), resting(base, 0), resting(base, 3)}, 3},
		{"who flies, as far over a forest", ".^...\n", []api.Unit{full(bird, 2, 4), resting(base, 0), resting(base, 4)}, 1},
		{"who goes, not as far over a forest", ".^...\n", []api.Unit{full(digger, 2, 4), resting(base, 0), resting(base, 4)}, 3},
		{"the forest where who trains stands counts", "^....\n", []api.Unit{full(digger, 2, 4), resting(base, 0), resting(base, 4)}, 3},
		{"as far by a forest where who trains stands", "^.....\n", []api.Unit{full(digger, 2, 4), resting(base, 0), resting(base, 5)}, 1},
		{"who trains flies, who comes goes", ".^...\n", []api.Unit{full(digger, 2, 4), resting(ark, 0), resting(ark, 4)}, 3},
		{"water between, for who goes", ".~...\n.....\n", []api.Unit{full(digger, 2, 4), resting(base, 0), resting(base, 4)}, 3},
		{"water between, for who flies", ".~...\n.....\n", []api.Unit{full(bird, 2, 4), resting(base, 0), resting(base, 4)}, 1},
		{"who stands in a way is no matter", ".....\n", []api.Unit{full(digger, 2, 4), resting(base, 0), resting(fighter, 1), of(1, resting(base, 3)), resting(base, 4)}, 1},
	} {
		c.hold(t)
	}
}

// TestWishHomeItself: V1, one that trains itself is at home wherever it is.
func TestWishHomeItself(t *testing.T) {
	for _, kind := range []int{wagon, ark, base} {
		u := gathering(kind, 2, 4, sorts()[kind].Carry)
		for _, c := range []wishes{
			{"alone", "....9\n", []api.Unit{u}, 2},
			{"beside another one", "....9\n", []api.Unit{u, resting(base, 1)}, 2},
			{"no ore", ".....\n", []api.Unit{gathering(kind, 2, 4, 0), resting(base, 0)}, 2},
		} {
			c.hold(t)
		}
		w := scene(t, "....9\n", resting(base, 1), u)
		if got, err := move.Wish(sorts(), w, 1); got != 2 || err != nil {
			t.Errorf("kind %d behind another one: got %d, %v", kind, got, err)
		}
	}
}

// TestWishHomeNone: V1, one that can't be got to is passed over; without any other its own cell.
func TestWishHomeNone(t *testing.T) {
	u := gathering(digger, 2, 3, 20)
	for _, c := range []wishes{
		{"nobody", "...9\n", []api.Unit{u}, 2},
		{"nobody, and no ore", "....\n", []api.Unit{gathering(digger, 2, 3, 4)}, 2},
		{"others of its player", "...9\n", []api.Unit{u, resting(fighter, 0), resting(digger, 1)}, 2},
		{"another player's alone", "...9\n", []api.Unit{u, of(1, resting(base, 0)), of(2, resting(wagon, 3))}, 2},
		{"another player's is nearer", "...9.\n", []api.Unit{u, of(1, resting(base, 1)), of(2, resting(base, 3)), resting(base, 0)}, 1},
		{"its player's is ahead of another's", ".....\n", []api.Unit{of(2, gathering(digger, 2, 0, 0)), of(1, resting(base, 1)), of(0, resting(base, 0)), of(2, resting(base, 4))}, 3},
		{"behind rock alone", ".#.9\n", []api.Unit{u, resting(base, 0)}, 2},
		{"over water alone", ".~.9\n", []api.Unit{u, resting(base, 0)}, 2},
		{"over water, for who flies", ".~.9\n", []api.Unit{gathering(bird, 2, 3, 5), resting(base, 0)}, 1},
		{"hovering on water alone", ".~.9\n", []api.Unit{u, resting(ark, 1)}, 2},
		{"hovering on water, for who flies", ".~.9\n", []api.Unit{gathering(bird, 2, 3, 5), resting(ark, 1)}, 1},
		{"behind rock, and a far one behind", ".#.9...\n", []api.Unit{u, resting(base, 0), resting(base, 6)}, 3},
		{"behind rock, and a far one ahead", ".#.9...\n", []api.Unit{u, resting(base, 6), resting(base, 0)}, 3},
		{"on water, and a far one", ".~.9...\n", []api.Unit{u, resting(ark, 1), resting(base, 6)}, 3},
		{"two behind rock", ".#.9#.\n", []api.Unit{u, resting(base, 0), resting(base, 5)}, 2},
	} {
		c.hold(t)
	}
}

// TestWishOfEach: V1, each unit of one world by its index.
func TestWishOfEach(t *testing.T) {
	w := scene(t, "....\n.9#.\n....\n", resting(base, 0), marching(fighter, 3, 11), gathering(digger, 5, 5, 0), gathering(digger, 9, 5, 20), of(1, gathering(runner, 10, 5, 3)), marching(bird, 8, 8))
	for i, want := range []int{0, 7, 5, 5, 10, 8} {
		if got, err := move.Wish(sorts(), w, i); got != want || err != nil {
			t.Errorf("unit %d: got %d, %v; want %d", i, got, err, want)
		}
	}
}
