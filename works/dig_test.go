package works_test

import (
	"slices"
	"testing"

	"marchland/api"
	"marchland/field"
	"marchland/works"
	"marchland/world"
)

// Numbers of the kinds.
const (
	base = iota
	digger
	fighter
	bird
	wagon
	ark
	hauler
	runner
)

func sorts() []api.Kind {
	return []api.Kind{
		{Name: "base", Life: 50, Sight: 4, Price: 50, Turns: 5, Trains: true},
		{Name: "digger", Life: 10, Sight: 3, Speed: 2, Price: 10, Turns: 2, Carry: 20},
		{Name: "fighter", Life: 20, Hit: 4, Range: 1, Sight: 4, Speed: 2, Price: 20, Turns: 3},
		{Name: "bird", Life: 8, Hit: 3, Range: 2, Sight: 5, Speed: 3, Price: 25, Turns: 3, Carry: 5, Flies: true},
		{Name: "wagon", Life: 30, Speed: 1, Price: 40, Turns: 4, Carry: 30, Trains: true},
		{Name: "ark", Life: 40, Speed: 4, Price: 90, Turns: 9, Carry: 7, Flies: true, Trains: true},
		{Name: "hauler", Life: 12, Speed: 4, Price: 30, Carry: 100},
		{Name: "runner", Life: 12, Speed: 3, Price: 15, Carry: 3},
	}
}

// idOf the i-th unit of a scene: never its index.
func idOf(i int) int { return 2*i + 3 }

// scene is a world of three players on the field of a text, with these units, by their ids.
func scene(t *testing.T, text string, units ...api.Unit) api.World {
	t.Helper()
	f, at, err := field.Parse(text)
	if err != nil {
		t.Fatalf("Parse(%q): %v at %d", text, err, at)
	}
	w := api.World{Turn: 6, Next: 90, Field: f, Gold: []int{5, 0, 70}}
	for i, u := range units {
		u.Id, u.Life = idOf(i), 3
		w.Units = append(w.Units, u)
	}
	right(t, sorts(), w)
	return w
}

func right(t *testing.T, k []api.Kind, w api.World) {
	t.Helper()
	if err := world.Check(k, w); err != nil {
		t.Fatalf("%v: Check says %v", w, err)
	}
}

func copied(w api.World) api.World {
	w.Field.Ground, w.Field.Ore = slices.Clone(w.Field.Ground), slices.Clone(w.Field.Ore)
	w.Gold, w.Units, w.Queue = slices.Clone(w.Gold), slices.Clone(w.Units), slices.Clone(w.Queue)
	return w
}

func alike(a, b api.World) bool {
	return a.Turn == b.Turn && a.Next == b.Next && a.Field.Wide == b.Field.Wide && a.Field.High == b.Field.High &&
		slices.Equal(a.Field.Ground, b.Field.Ground) && slices.Equal(a.Field.Ore, b.Field.Ore) &&
		slices.Equal(a.Gold, b.Gold) && slices.Equal(a.Units, b.Units) && slices.Equal(a.Queue, b.Queue)
}

// resting is a unit of player 0.
func resting(kind, at int) api.Unit { return api.Unit{Kind: kind, At: at} }

// loaded rests with a Load.
func loaded(kind, at, load int) api.Unit { return api.Unit{Kind: kind, At: at, Load: load} }

func gathering(kind, at, goal, load int) api.Unit {
	return api.Unit{Kind: kind, At: at, Task: api.Gather, Goal: goal, Load: load}
}

func marching(kind, at, goal, load int) api.Unit {
	return api.Unit{Kind: kind, At: at, Task: api.March, Goal: goal, Load: load}
}

// of is a unit as another player has it.
func of(player int, u api.Unit) api.Unit {
	u.Player = player
	return u
}

// share is what a unit of an index takes, or brings.
type share struct{ unit, many int }

// dug is what is taken, and then brought, in the order in which it is told.
type dug struct {
	name, text     string
	units          []api.Unit
	takes, brought []share
}

// want is what comes of a world, and what is told.
func (c dug) want(w api.World) (api.World, []api.Event) {
	w = copied(w)
	var events []api.Event
	for _, s := range c.takes {
		u := &w.Units[s.unit]
		u.Load += s.many
		w.Field.Ore[u.At] -= s.many
		events = append(events, api.Event{What: 4, Unit: u.Id, Arg: s.many})
	}
	for _, s := range c.brought {
		u := &w.Units[s.unit]
		u.Load -= s.many
		w.Gold[u.Player] += s.many
		events = append(events, api.Event{What: 5, Unit: u.Id, Arg: s.many})
	}
	return w, events
}

func (c dug) hold(t *testing.T) {
	t.Helper()
	w := scene(t, c.text, c.units...)
	want, told := c.want(w)
	got, events, err := works.Dig(sorts(), w)
	if !alike(got, want) || !slices.Equal(events, told) || err != nil {
		t.Errorf("%s: got %v, %v, %v; want %v, %v", c.name, got, events, err, want, told)
	}
	right(t, sorts(), got)
}

// one is a share of the unit 0.
func one(many int) []share { return []share{{0, many}} }

// TestDigTakes: D1, as much as it can still carry, as there is, and at most 10. A digit of a field's text is ten times as much ore.
func TestDigTakes(t *testing.T) {
	for _, c := range []dug{
		{"much ore", ".9.\n", []api.Unit{gathering(digger, 1, 1, 0)}, one(10), nil},
		{"much ore and much room", ".9.\n", []api.Unit{gathering(hauler, 1, 1, 0)}, one(10), nil},
		{"much ore, for one who has much", ".9.\n", []api.Unit{gathering(hauler, 1, 1, 60)}, one(10), nil},
		{"just ten of room", ".9.\n", []api.Unit{gathering(digger, 1, 1, 10)}, one(10), nil},
		{"nine of room", ".9.\n", []api.Unit{gathering(digger, 1, 1, 11)}, one(9), nil},
		{"one of room", ".9.\n", []api.Unit{gathering(digger, 1, 1, 19)}, one(1), nil},
		{"no room", ".9.\n", []api.Unit{gathering(digger, 1, 1, 20)}, nil, nil},
		{"one who can carry less than ten", ".9.\n", []api.Unit{gathering(runner, 1, 1, 0)}, one(3), nil},
		{"one who can carry nothing", ".9.\n", []api.Unit{gathering(fighter, 1, 1, 0)}, nil, nil},
		{"one who flies", ".9.\n", []api.Unit{gathering(bird, 1, 1, 1)}, one(4), nil},
		{"one who trains", ".9.\n", []api.Unit{gathering(wagon, 1, 1, 1)}, one(10), nil},
		{"no ore", "...\n", []api.Unit{gathering(digger, 1, 1, 0)}, nil, nil},
		{"no ore, at a forest", ".^.\n", []api.Unit{gathering(digger, 1, 1, 0)}, nil, nil},
		{"ore beside it alone", "9.9\n", []api.Unit{gathering(digger, 1, 1, 0)}, nil, nil},
		{"at the cell 0", "9..\n", []api.Unit{gathering(digger, 0, 0, 0)}, one(10), nil},
		{"at the last cell", "...\n..9\n", []api.Unit{gathering(digger, 5, 5, 0)}, one(10), nil},
		{"just ten of ore", ".1.\n", []api.Unit{gathering(hauler, 1, 1, 0)}, one(10), nil},
		{"away from its Goal", "99.\n", []api.Unit{gathering(digger, 1, 0, 0)}, nil, nil},
		{"away from its Goal, the last cell", "999\n", []api.Unit{gathering(digger, 1, 2, 0)}, nil, nil},
		{"away from its Goal, where no ore is", "9..\n", []api.Unit{gathering(digger, 0, 1, 0)}, nil, nil},
		{"rests on ore", "9..\n", []api.Unit{resting(digger, 0)}, nil, nil},
		{"marches over ore", ".99\n", []api.Unit{marching(digger, 1, 2, 0)}, nil, nil},
		{"marches, and stands at its Goal", ".9.\n", []api.Unit{marching(digger, 1, 1, 0)}, nil, nil},
		{"marches, and stands at its Goal 0", "9..\n", []api.Unit{marching(digger, 0, 0, 0)}, nil, nil},
		{"nobody", "999\n", nil, nil, nil},
	} {
		c.hold(t)
	}
}

// TestDigTakesOdd: D1, amounts of ore that no text of a field has.
func TestDigTakesOdd(t *testing.T) {
	for _, c := range []struct{ ore, load, takes int }{
		{1, 0, 1}, {9, 0, 9}, {10, 0, 10}, {11, 0, 10}, {7, 13, 7}, {7, 14, 6}, {8, 12, 8}, {8, 11, 8}, {10, 11, 9}, {1, 19, 1}, {2, 19, 1}, {1, 20, 0}, {api.MaxNumber, 0, 10}, {api.MaxNumber, 15, 5},
	} {
		w := scene(t, "...\n", gathering(digger, 1, 1, c.load))
		w.Field.Ore[1] = c.ore
		got, events, err := works.Dig(sorts(), w)
		if err != nil || got.Field.Ore[1] != c.ore-c.takes || got.Units[0].Load != c.load+c.takes {
			t.Errorf("%v: got %v, %v", c, got, err)
		}
		if c.takes > 0 != slices.Equal(events, []api.Event{{What: api.Took, Unit: idOf(0), Arg: c.takes}}) {
			t.Errorf("%v: got %v", c, events)
		}
	}
}

// TestDigBrings: D1, one with a Load, whatever its Task is, beside one of its player that trains.
func TestDigBrings(t *testing.T) {
	for _, c := range []dug{
		{"above it", ".\n.\n", []api.Unit{loaded(digger, 1, 20), resting(base, 0)}, nil, one(20)},
		{"left of it", "..\n", []api.Unit{loaded(digger, 1, 20), resting(base, 0)}, nil, one(20)},
		{"right of it", "..\n", []api.Unit{loaded(digger, 0, 20), resting(base, 1)}, nil, one(20)},
		{"below it", ".\n.\n", []api.Unit{loaded(digger, 0, 20), resting(base, 1)}, nil, one(20)},
		{"less than it can carry", "..\n", []api.Unit{loaded(digger, 0, 1), resting(base, 1)}, nil, one(1)},
		{"nothing", "..\n", []api.Unit{resting(digger, 0), resting(base, 1)}, nil, nil},
		{"on its way to gather", "..9\n", []api.Unit{gathering(digger, 1, 2, 7), resting(base, 0)}, nil, one(7)},
		{"marches", "...\n", []api.Unit{marching(digger, 1, 2, 7), resting(base, 0)}, nil, one(7)},
		{"who trains comes ahead of it", "...\n", []api.Unit{resting(base, 1), loaded(digger, 0, 7)}, nil, []share{{1, 7}}},
		{"who trains goes somewhere", "...\n", []api.Unit{loaded(digger, 0, 7), marching(wagon, 1, 2, 0)}, nil, one(7)},
		{"who trains flies", ".~.\n", []api.Unit{loaded(digger, 0, 7), resting(ark, 1)}, nil, one(7)},
		{"over who trains flies", ".~.\n", []api.Unit{loaded(bird, 1, 5), resting(base, 2)}, nil, one(5)},
		{"beside two that train: once", "...\n", []api.Unit{loaded(digger, 1, 7), resting(base, 0), resting(base, 2)}, nil, one(7)},
		{"beside another player's", "...\n", []api.Unit{loaded(digger, 1, 7), of(1, resting(base, 0)), of(2, resting(base, 2))}, nil, nil},
		{"beside another player's and its own", "...\n", []api.Unit{loaded(digger, 1, 7), of(1, resting(base, 0)), resting(base, 2)}, nil, one(7)},
		{"beside one that does not train", "...\n", []api.Unit{loaded(digger, 1, 7), resting(fighter, 0), resting(digger, 2)}, nil, nil},
		{"across a corner", "..\n..\n", []api.Unit{loaded(digger, 0, 7), resting(base, 3)}, nil, nil},
		{"across the other corner", "..\n..\n", []api.Unit{loaded(digger, 1, 7), resting(base, 2)}, nil, nil},
		{"two cells away", "...\n", []api.Unit{loaded(digger, 0, 7), resting(base, 2)}, nil, nil},
		{"at a row's end, who trains at the next one's beginning", "...\n...\n", []api.Unit{loaded(digger, 2, 7), resting(base, 3)}, nil, nil},
		{"far from any", "....\n....\n....\n", []api.Unit{loaded(digger, 0, 7), resting(base, 11)}, nil, nil},
		{"without any", "...\n", []api.Unit{loaded(digger, 1, 7)}, nil, nil},
		{"trains itself, alone", "...\n", []api.Unit{loaded(wagon, 1, 7)}, nil, nil},
		{"trains itself, beside another one", "...\n", []api.Unit{loaded(wagon, 1, 7), resting(base, 0)}, nil, one(7)},
		{"both train, both bring", "...\n", []api.Unit{loaded(wagon, 1, 7), loaded(ark, 0, 3)}, nil, []share{{0, 7}, {1, 3}}},
		{"of another player", "...\n", []api.Unit{of(2, loaded(digger, 1, 7)), of(2, resting(base, 0))}, nil, one(7)},
	} {
		c.hold(t)
	}
}

// TestDigBoth: D1, all take first, then those bring that have a Load, units in their order.
func TestDigBoth(t *testing.T) {
	for _, c := range []dug{
		{"takes and brings", ".9\n", []api.Unit{gathering(digger, 1, 1, 0), resting(base, 0)}, one(10), one(10)},
		{"takes and brings what it had too", ".9\n", []api.Unit{gathering(digger, 1, 1, 5), resting(base, 0)}, one(10), one(15)},
		{"can take no more, and brings", ".9\n", []api.Unit{gathering(digger, 1, 1, 20), resting(base, 0)}, nil, one(20)},
		{"takes, and brings not", ".9\n", []api.Unit{gathering(digger, 1, 1, 5), of(1, resting(base, 0))}, one(10), nil},
		{"two take, two bring", ".9\n9.\n", []api.Unit{gathering(digger, 1, 1, 0), gathering(digger, 2, 2, 15), resting(base, 0)}, []share{{0, 10}, {1, 5}}, []share{{0, 10}, {1, 20}}},
		{"the first brings after the second has taken", ".8\n", []api.Unit{loaded(digger, 0, 4), gathering(wagon, 1, 1, 0)}, []share{{1, 10}}, one(4)},
		{"one takes, another one brings", "..9.\n", []api.Unit{gathering(digger, 2, 2, 0), loaded(digger, 1, 4), resting(base, 0)}, one(10), []share{{1, 4}}},
		{"of two players", "9.9\n.9.\n", []api.Unit{of(2, gathering(digger, 0, 0, 0)), of(1, gathering(digger, 2, 2, 2)), of(2, resting(base, 1)), of(1, resting(base, 5)), of(1, gathering(digger, 4, 4, 19))},
			[]share{{0, 10}, {1, 10}, {4, 1}}, []share{{0, 10}, {1, 12}, {4, 20}}},
		{"one takes what another one is away from", "9..\n", []api.Unit{gathering(digger, 1, 0, 0), gathering(digger, 0, 0, 0)}, []share{{1, 10}}, nil},
		{"who brought it has room the next time alone", ".9\n", []api.Unit{gathering(runner, 1, 1, 3), resting(base, 0)}, nil, one(3)},
	} {
		c.hold(t)
	}
}

// TestDigGold: D1, no more than MaxNumber: what is beyond it is lost, and the event tells the whole Load.
func TestDigGold(t *testing.T) {
	for _, c := range []struct{ had, load, has int }{
		{api.MaxNumber, 20, api.MaxNumber}, {api.MaxNumber - 1, 20, api.MaxNumber}, {api.MaxNumber - 19, 20, api.MaxNumber},
		{api.MaxNumber - 20, 20, api.MaxNumber}, {api.MaxNumber - 21, 20, api.MaxNumber - 1}, {api.MaxNumber, 1, api.MaxNumber}, {0, 1, 1},
	} {
		w := scene(t, "...\n", of(1, resting(base, 0)), of(1, loaded(digger, 1, c.load)))
		w.Gold[1] = c.had
		got, events, err := works.Dig(sorts(), w)
		told := []api.Event{{What: api.Brought, Unit: idOf(1), Arg: c.load}}
		if err != nil || !slices.Equal(got.Gold, []int{5, c.has, 70}) || got.Units[1].Load != 0 || !slices.Equal(events, told) {
			t.Errorf("%v: got %v, %v, %v", c, got, events, err)
		}
	}
	w := scene(t, "...\n", resting(base, 1), loaded(digger, 0, 20), loaded(digger, 2, 20))
	w.Gold[0] = api.MaxNumber - 30
	got, events, err := works.Dig(sorts(), w)
	if err != nil || got.Gold[0] != api.MaxNumber || len(events) != 2 || events[1].Arg != 20 {
		t.Errorf("two that bring: got %v, %v, %v", got.Gold, events, err)
	}
}

// TestDigAgain: D1, turn by turn until there is no ore, and then nothing comes any more.
func TestDigAgain(t *testing.T) {
	w := scene(t, ".3\n", gathering(digger, 1, 1, 0), resting(base, 0))
	w.Field.Ore[1] = 23
	for i, want := range []struct{ ore, gold, events int }{{13, 15, 2}, {3, 25, 2}, {0, 28, 2}, {0, 28, 0}} {
		got, events, err := works.Dig(sorts(), w)
		if err != nil || got.Field.Ore[1] != want.ore || got.Gold[0] != want.gold || len(events) != want.events || got.Turn != 6 {
			t.Errorf("turn %d: got %v, %v, %v", i, got, events, err)
		}
		w = got
	}
}
