package turn_test

import (
	"slices"
	"testing"

	"marchland/api"
	"marchland/field"
	"marchland/turn"
	"marchland/world"
)

// Numbers of the kinds.
const (
	base = iota
	digger
	fighter
	bird
	wagon
	ark
	quick
	titan
)

func sorts() []api.Kind {
	return []api.Kind{
		{Name: "base", Life: 50, Sight: 4, Price: 50, Turns: 5, Trains: true},
		{Name: "digger", Life: 10, Sight: 3, Speed: 2, Price: 10, Turns: 2, Carry: 20},
		{Name: "fighter", Life: 20, Hit: 4, Range: 1, Sight: 4, Speed: 2, Price: 20, Turns: 3},
		{Name: "bird", Life: 8, Hit: 3, Range: 2, Sight: 5, Speed: 3, Price: 25, Turns: 3, Carry: 5, Flies: true},
		{Name: "wagon", Life: 30, Speed: 1, Price: 40, Turns: 1, Carry: 30, Trains: true},
		{Name: "ark", Life: 40, Speed: 4, Price: 90, Turns: 9, Flies: true, Trains: true},
		{Name: "quick", Life: 3, Carry: 1},
		{Name: "titan", Life: 1000, Hit: 1000, Range: 1, Speed: 1, Price: 1000, Turns: 1000},
	}
}

// idOf the i-th unit of a scene: never its index.
func idOf(i int) int { return 2*i + 3 }

// scene is a world of three players on the field of a text, with these units, by their ids; one whose Life is 0 has 3.
func scene(t *testing.T, text string, units ...api.Unit) api.World {
	t.Helper()
	f, at, err := field.Parse(text)
	if err != nil {
		t.Fatalf("Parse(%q): %v at %d", text, err, at)
	}
	w := api.World{Turn: 6, Next: 90, Field: f, Gold: []int{100, 60, 7}}
	for i, u := range units {
		u.Id = idOf(i)
		if u.Life == 0 {
			u.Life = 3
		}
		w.Units = append(w.Units, u)
	}
	right(t, sorts(), w)
	return w
}

func right(t *testing.T, k []api.Kind, w api.World) {
	t.Helper()
	if err := world.Check(k, w); err != nil {
		t.Fatalf("%v: Check says %v", w, err)
	}
}

func copied(w api.World) api.World {
	w.Field.Ground, w.Field.Ore = slices.Clone(w.Field.Ground), slices.Clone(w.Field.Ore)
	w.Gold, w.Units, w.Queue = slices.Clone(w.Gold), slices.Clone(w.Units), slices.Clone(w.Queue)
	return w
}

func alike(a, b api.World) bool {
	return a.Turn == b.Turn && a.Next == b.Next && a.Field.Wide == b.Field.Wide && a.Field.High == b.Field.High &&
		slices.Equal(a.Field.Ground, b.Field.Ground) && slices.Equal(a.Field.Ore, b.Field.Ore) &&
		slices.Equal(a.Gold, b.Gold) && slices.Equal(a.Units, b.Units) && slices.Equal(a.Queue, b.Queue)
}

// resting is a unit of player 0.
func resting(kind, at int) api.Unit { return api.Unit{Kind: kind, At: at} }

func marching(kind, at, goal int) api.Unit {
	return api.Unit{Kind: kind, At: at, Task: api.March, Goal: goal}
}

func gathering(kind, at, goal, load int) api.Unit {
	return api.Unit{Kind: kind, At: at, Task: api.Gather, Goal: goal, Load: load}
}

// of is a unit as another player has it.
func of(player int, u api.Unit) api.Unit {
	u.Player = player
	return u
}

// alive is a unit with so much Life.
func alive(life int, u api.Unit) api.Unit {
	u.Life = life
	return u
}

// Orders of player 0 to the unit of an index.

func stop(i int) api.Order        { return api.Order{Unit: idOf(i), What: api.DoStop} }
func march(i, at int) api.Order   { return api.Order{Unit: idOf(i), What: api.DoMarch, Arg: at} }
func gather(i, at int) api.Order  { return api.Order{Unit: idOf(i), What: api.DoGather, Arg: at} }
func train(i, kind int) api.Order { return api.Order{Unit: idOf(i), What: api.DoTrain, Arg: kind} }

// by is an order as another player asks it.
func by(player int, o api.Order) api.Order {
	o.Player = player
	return o
}

// job is one of player 0 at the unit of an index.
func job(i, kind, left int) api.Job { return api.Job{Unit: idOf(i), Kind: kind, Left: left} }

// given asks what becomes of a world, and which orders are refused, by their numbers in Last's list; nothing else changes.
func given(t *testing.T, name string, w api.World, l []api.Order, become func(w *api.World), refused ...int) {
	t.Helper()
	want := copied(w)
	if become != nil {
		become(&want)
	}
	got, told, err := turn.Give(sorts(), w, l)
	if !alike(got, want) || !slices.Equal(told, refused) || err != nil {
		t.Errorf("%s: got %v, %v, %v; want %v, %v", name, got, told, err, want, refused)
	}
	right(t, sorts(), got)
}

// told is what a unit does, and where, after an order; no: it is refused, and does what it did.
type told struct {
	name, text string
	unit       api.Unit
	ask        api.Order
	task, goal int
	no         bool
}

func (c told) hold(t *testing.T) {
	t.Helper()
	w := scene(t, c.text, of(1, resting(base, 0)), c.unit)
	if c.no {
		given(t, c.name, w, []api.Order{c.ask}, nil, 0)
		return
	}
	given(t, c.name, w, []api.Order{c.ask}, func(w *api.World) { w.Units[1].Task, w.Units[1].Goal = c.task, c.goal })
}

// TestGiveStop: T1, whatever it did, it rests, and its Goal is 0; what it carries stays.
func TestGiveStop(t *testing.T) {
	for _, c := range []told{
		{"one that rests", "....\n", resting(digger, 2), stop(1), api.Rest, 0, false},
		{"one that marches", "....\n", marching(digger, 2, 3), stop(1), api.Rest, 0, false},
		{"one that marches to 0", "....\n", marching(digger, 2, 0), stop(1), api.Rest, 0, false},
		{"one that gathers", "...9\n", gathering(digger, 2, 3, 7), stop(1), api.Rest, 0, false},
		{"one that gathers where it stands", "...9\n", gathering(digger, 3, 3, 7), stop(1), api.Rest, 0, false},
		{"one that trains", "....\n", resting(base, 2), stop(1), api.Rest, 0, false},
	} {
		c.hold(t)
	}
}

// TestGiveMarch: T1, to any cell whose ground is such that its kind gets there, whether there is a way or not.
func TestGiveMarch(t *testing.T) {
	for _, c := range []told{
		{"one that rests", "....\n", resting(digger, 2), march(1, 3), api.March, 3, false},
		{"one that marches elsewhere", "....\n", marching(digger, 2, 3), march(1, 1), api.March, 1, false},
		{"one that gathers", "...9\n", gathering(digger, 2, 3, 7), march(1, 1), api.March, 1, false},
		{"to where it stands", "....\n", resting(digger, 2), march(1, 2), api.March, 2, false},
		{"to the cell 0, where another one is", "....\n", resting(digger, 2), march(1, 0), api.March, 0, false},
		{"to the last cell", "....\n....\n", resting(digger, 2), march(1, 7), api.March, 7, false},
		{"to the cell behind the last", "....\n....\n", resting(digger, 2), march(1, 8), 0, 0, true},
		{"to a cell far behind the last", "....\n....\n", resting(digger, 2), march(1, api.MaxNumber), 0, 0, true},
		{"to the last cell, of a column", ".\n.\n.\n", resting(digger, 1), march(1, 2), api.March, 2, false},
		{"to the cell behind the last, of a column", ".\n.\n.\n", resting(digger, 1), march(1, 3), 0, 0, true},
		{"to forest", "...^\n", resting(digger, 2), march(1, 3), api.March, 3, false},
		{"to ore", "...9\n", resting(digger, 2), march(1, 3), api.March, 3, false},
		{"to water", "...~\n", resting(digger, 2), march(1, 3), 0, 0, true},
		{"to rock", "...#\n", resting(digger, 2), march(1, 3), 0, 0, true},
		{"to water, from a march", "...~\n", marching(digger, 2, 1), march(1, 3), 0, 0, true},
		{"to rock, from gathering", ".9.#\n", gathering(digger, 2, 1, 4), march(1, 3), 0, 0, true},
		{"one that flies, to water", "...~\n", resting(bird, 2), march(1, 3), api.March, 3, false},
		{"one that flies, to forest", "...^\n", resting(bird, 2), march(1, 3), api.March, 3, false},
		{"one that flies, to rock", "...#\n", resting(bird, 2), march(1, 3), 0, 0, true},
		{"one that flies, behind the last cell", "....\n", resting(bird, 2), march(1, 4), 0, 0, true},
		{"where no way leads", "..#.\n", resting(digger, 1), march(1, 3), api.March, 3, false},
		{"one that does not move", "....\n", resting(base, 2), march(1, 3), api.March, 3, false},
	} {
		c.hold(t)
	}
}

// TestGiveGather: T1, where ore is, by one whose kind can carry some.
func TestGiveGather(t *testing.T) {
	for _, c := range []told{
		{"one that rests", "...9\n", resting(digger, 2), gather(1, 3), api.Gather, 3, false},
		{"one that marches", "...9\n", marching(digger, 2, 1), gather(1, 3), api.Gather, 3, false},
		{"one that gathers elsewhere", ".9.9\n", gathering(digger, 2, 1, 7), gather(1, 3), api.Gather, 3, false},
		{"one that has all it can carry", "...9\n", api.Unit{Kind: digger, At: 2, Load: 20}, gather(1, 3), api.Gather, 3, false},
		{"at the cell 0", "9...\n", resting(digger, 2), gather(1, 0), api.Gather, 0, false},
		{"where it stands", "..9.\n", resting(digger, 2), gather(1, 2), api.Gather, 2, false},
		{"one that can carry 1", "...9\n", resting(quick, 2), gather(1, 3), api.Gather, 3, false},
		{"one that flies", "...9\n", resting(bird, 2), gather(1, 3), api.Gather, 3, false},
		{"one that trains", "...9\n", resting(wagon, 2), gather(1, 3), api.Gather, 3, false},
		{"where no way leads", "..#9\n", resting(digger, 1), gather(1, 3), api.Gather, 3, false},
		{"the last cell", "....\n...9\n", resting(digger, 2), gather(1, 7), api.Gather, 7, false},
		{"the cell behind the last", "....\n...9\n", resting(digger, 2), gather(1, 8), 0, 0, true},
		{"a cell far behind the last", "9999\n", resting(digger, 2), gather(1, api.MaxNumber), 0, 0, true},
		{"no ore", "....\n", resting(digger, 2), gather(1, 3), 0, 0, true},
		{"no ore, beside some", "..9.\n", resting(digger, 2), gather(1, 3), 0, 0, true},
		{"no ore, in forest", "...^\n", resting(digger, 2), gather(1, 3), 0, 0, true},
		{"no ore, on rock", "...#\n", resting(digger, 2), gather(1, 3), 0, 0, true},
		{"no ore, from a march", "....\n", marching(digger, 2, 3), gather(1, 1), 0, 0, true},
		{"no ore, from gathering", ".9..\n", gathering(digger, 2, 1, 4), gather(1, 3), 0, 0, true},
		{"one that can carry nothing", "...9\n", resting(fighter, 2), gather(1, 3), 0, 0, true},
		{"one that can carry nothing, and flies", "...9\n", resting(ark, 2), gather(1, 3), 0, 0, true},
	} {
		c.hold(t)
	}
}

// TestGiveGatherLeast: T1, 1 of ore is some.
func TestGiveGatherLeast(t *testing.T) {
	w := scene(t, "...\n", resting(digger, 0))
	for ore, refused := range [][]int{{0}, nil, nil} {
		w.Field.Ore[2] = ore
		got, told, err := turn.Give(sorts(), w, []api.Order{gather(0, 2)})
		if !slices.Equal(told, refused) || (got.Units[0].Task == api.Gather) != (refused == nil) || err != nil {
			t.Errorf("ore %d: got %v, %v, %v", ore, got, told, err)
		}
	}
}

// TestGiveTrain: T1, Gold is Price less, and a job comes behind all, of Turns of the kind, 1 at least.
func TestGiveTrain(t *testing.T) {
	for _, c := range []struct {
		name       string
		unit, kind int
		price      int
		left       int
	}{
		{"a base", base, base, 50, 5},
		{"a digger", base, digger, 10, 2},
		{"a bird", base, bird, 25, 3},
		{"a kind of one turn", base, wagon, 40, 1},
		{"a kind of no turn, that costs nothing", base, quick, 0, 1},
		{"at a wagon", wagon, fighter, 20, 3},
		{"at an ark", ark, ark, 90, 9},
	} {
		w := scene(t, "....\n", of(1, resting(base, 0)), resting(c.unit, 2), resting(wagon, 3))
		for _, queue := range [][]api.Job{nil, {job(1, digger, 7)}, {{Player: 1, Unit: idOf(0), Kind: base, Left: 1}, job(2, bird, 2)}} {
			w.Queue = queue
			given(t, c.name, w, []api.Order{train(1, c.kind)}, func(w *api.World) {
				w.Gold[0] -= c.price
				w.Queue = append(w.Queue, job(1, c.kind, c.left))
			})
		}
	}
}

// TestGiveTrainMost: T1, the greatest Price and the greatest Turns that a kind may have.
func TestGiveTrainMost(t *testing.T) {
	w := scene(t, "...\n", resting(base, 0))
	w.Gold[0] = api.MaxNumber
	given(t, "a titan", w, []api.Order{train(0, titan)}, func(w *api.World) {
		w.Gold[0] = api.MaxNumber - 1000
		w.Queue = []api.Job{job(0, titan, 1000)}
	})
}

// TestGiveTrainTurns: T1, Left is Turns, but for 0, of which it is 1.
func TestGiveTrainTurns(t *testing.T) {
	for turns, left := range []int{1, 1, 2, 3} {
		k := sorts()
		k[fighter].Turns = turns
		got, told, err := turn.Give(k, scene(t, "...\n", resting(base, 0)), []api.Order{train(0, fighter)})
		if !slices.Equal(got.Queue, []api.Job{job(0, fighter, left)}) || told != nil || err != nil {
			t.Errorf("Turns %d: got %v, %v, %v", turns, got.Queue, told, err)
		}
	}
}

// TestGiveTrainRefused: T1, its kind does not train, or Arg is no kind.
func TestGiveTrainRefused(t *testing.T) {
	w := scene(t, "....\n", resting(base, 0), resting(digger, 1), resting(bird, 2))
	w.Gold[0] = api.MaxNumber
	for _, c := range []struct {
		name string
		ask  api.Order
	}{
		{"a digger does not train", train(1, digger)},
		{"a bird does not train", train(2, digger)},
		{"a digger does not train what costs nothing", train(1, quick)},
		{"a kind behind the last", train(0, 8)},
		{"a kind far behind the last", train(0, api.MaxNumber)},
		{"a digger, and a kind behind the last", train(1, 8)},
	} {
		given(t, c.name, w, []api.Order{c.ask}, nil, 0)
	}
	given(t, "the last kind", w, []api.Order{train(0, 7)}, func(w *api.World) {
		w.Gold[0] -= 1000
		w.Queue = []api.Job{job(0, titan, 1000)}
	})
	fewer := sorts()[:4]
	for kind, refused := range [][]int{nil, nil, nil, nil, {0}, {0}} {
		if _, got, err := turn.Give(fewer, w, []api.Order{train(0, kind)}); !slices.Equal(got, refused) || err != nil {
			t.Errorf("kind %d of 4: got %v, %v; want %v", kind, got, err, refused)
		}
	}
}

// TestGiveTrainGold: T1, Gold just the Price, and one less; the Price of who is trained, and the Gold of who asks.
func TestGiveTrainGold(t *testing.T) {
	for _, c := range []struct {
		golds      []int
		kind, left int
		refused    []int
	}{
		{[]int{10, 0, 0}, digger, 0, nil},
		{[]int{9, 10, 10}, digger, 9, []int{0}},
		{[]int{11, 0, 0}, digger, 1, nil},
		{[]int{50, 0, 0}, base, 0, nil},
		{[]int{49, 1000, 1000}, base, 49, []int{0}},
		{[]int{0, 0, 0}, quick, 0, nil},
		{[]int{0, 1000, 1000}, digger, 0, []int{0}},
		{[]int{1000, 0, 0}, titan, 0, nil},
		{[]int{999, 0, 0}, titan, 999, []int{0}},
	} {
		w := scene(t, "...\n", resting(base, 0))
		w.Gold = c.golds
		got, told, err := turn.Give(sorts(), w, []api.Order{train(0, c.kind)})
		if got.Gold[0] != c.left || !slices.Equal(got.Gold[1:], c.golds[1:]) || !slices.Equal(told, c.refused) || (len(got.Queue) == 1) != (c.refused == nil) || err != nil {
			t.Errorf("%v: got %v, %v, %v", c, got, told, err)
		}
	}
}

// TestGiveTrainQueue: T1, MaxQueue jobs, and one less; whosever they are.
func TestGiveTrainQueue(t *testing.T) {
	w := scene(t, "....\n", resting(base, 0), of(1, resting(base, 1)))
	other := api.Job{Player: 1, Unit: idOf(1), Kind: digger, Left: 4}
	for _, one := range []api.Job{job(0, bird, 3), other} {
		w.Queue = slices.Repeat([]api.Job{one}, api.MaxQueue)
		given(t, "MaxQueue", w, []api.Order{train(0, digger)}, nil, 0)
		w.Queue = w.Queue[:api.MaxQueue-1]
		given(t, "one less", w, []api.Order{train(0, digger)}, func(w *api.World) {
			w.Gold[0] -= 10
			w.Queue = append(w.Queue, job(0, digger, 2))
		})
		given(t, "one less, and two orders", w, []api.Order{train(0, digger), train(0, bird)}, func(w *api.World) {
			w.Gold[0] -= 10
			w.Queue = append(w.Queue, job(0, digger, 2))
		}, 1)
	}
}
