package world_test

import (
	"math"
	"slices"
	"testing"

	"marchland/api"
	"marchland/plain"
	"marchland/world"
)

// Numbers of the kinds.
const (
	base = iota
	digger
	fighter
	bird
)

func sorts() []api.Kind {
	return []api.Kind{
		{Name: "base", Life: 50, Sight: 4, Price: 50, Turns: 5, Trains: true},
		{Name: "digger", Life: 10, Sight: 3, Speed: 2, Price: 10, Turns: 2, Carry: 20},
		{Name: "fighter", Life: 20, Hit: 4, Range: 1, Sight: 4, Speed: 2, Price: 20, Turns: 3},
		{Name: "bird", Life: 8, Hit: 3, Range: 2, Sight: 5, Speed: 3, Price: 25, Turns: 3, Flies: true},
	}
}

// bare is a field of plains without ore.
func bare(wide, high int) api.Field {
	return api.Field{Wide: wide, High: high, Ground: make([]int, wide*high), Ore: make([]int, wide*high)}
}

// land has all grounds: cell 0 is Plain, 1 Rock, 2 Water, 3 Forest, then 8 of Plain, of which 5 and 6 have ore.
func land() api.Field {
	f := bare(4, 3)
	f.Ground[1], f.Ground[2], f.Ground[3] = api.Rock, api.Water, api.Forest
	f.Ore[5], f.Ore[6] = 30, api.MaxNumber
	return f
}

// few is an ordinary world of two players.
func few() api.World {
	return api.World{
		Turn: 3, Next: 9, Field: land(), Gold: []int{40, 0},
		Units: []api.Unit{
			{Id: 1, Player: 0, Kind: base, At: 0, Life: 50},
			{Id: 2, Player: 1, Kind: base, At: 11, Life: 1},
			{Id: 4, Player: 0, Kind: digger, At: 3, Life: 7, Load: 20, Task: api.Gather, Goal: 5},
			{Id: 5, Player: 1, Kind: bird, At: 2, Life: 8, Task: api.March, Goal: 0},
			{Id: 8, Player: 1, Kind: fighter, At: 8, Life: 20, Task: api.March, Goal: 11},
		},
		Queue: []api.Job{{Player: 1, Unit: 2, Kind: bird, Left: 1}, {Player: 0, Unit: 1, Kind: base, Left: 1000}, {Player: 1, Unit: 2, Kind: digger, Left: 2}},
	}
}

// crowd is a world with so many bases, one a cell from 0 on.
func crowd(n int) api.World {
	w := api.World{Next: n + 1, Field: bare(12, 12), Gold: []int{0, 0}}
	for i := range n {
		w.Units = append(w.Units, api.Unit{Id: i + 1, Player: i % 2, Kind: base, At: i, Life: 50})
	}
	return w
}

func copied(w api.World) api.World {
	w.Field.Ground, w.Field.Ore = slices.Clone(w.Field.Ground), slices.Clone(w.Field.Ore)
	w.Gold, w.Units, w.Queue = slices.Clone(w.Gold), slices.Clone(w.Units), slices.Clone(w.Queue)
	return w
}

func alike(a, b api.World) bool {
	return a.Turn == b.Turn && a.Next == b.Next && a.Field.Wide == b.Field.Wide && a.Field.High == b.Field.High &&
		slices.Equal(a.Field.Ground, b.Field.Ground) && slices.Equal(a.Field.Ore, b.Field.Ore) &&
		slices.Equal(a.Gold, b.Gold) && slices.Equal(a.Units, b.Units) && slices.Equal(a.Queue, b.Queue)
}

// jobs are so many of the first base of few.
func jobs(n int) []api.Job { return slices.Repeat([]api.Job{{Unit: 1, Kind: bird, Left: 3}}, n) }

// TestCheckRight: S2, worlds without a fault.
func TestCheckRight(t *testing.T) {
	lonely := api.World{Next: 1, Field: bare(1, 1), Gold: []int{0}}
	queued := few()
	queued.Queue = jobs(12)
	full := crowd(40)
	full.Queue = jobs(12)
	for i, w := range []api.World{lonely, few(), crowd(0), crowd(1), crowd(39), crowd(40), queued, full} {
		if err := world.Check(sorts(), w); err != nil {
			t.Errorf("world %d: got %v", i, err)
		}
	}
	if err := world.Check(nil, lonely); err != nil {
		t.Errorf("of no kinds: got %v", err)
	}
}

// part is a number of a world, its least and its most, and what is told beyond them.
type part struct {
	name        string
	least, most int
	told        api.Errno
	w           api.World
	of          func(w *api.World) *int
}

// lone is a world of three players with one unit that rests, on plains.
func lone(kind int) api.World {
	return api.World{Next: 8, Field: bare(4, 3), Gold: []int{0, 7, 0}, Units: []api.Unit{{Id: 3, Player: 1, Kind: kind, At: 6, Life: 1}}}
}

// busy is lone, with a unit that is of some task, and a job.
func busy(task int) api.World {
	w := lone(base)
	w.Units[0].Task = task
	w.Queue = []api.Job{{Player: 1, Unit: 3, Kind: fighter, Left: 5}}
	return w
}

func parts() []part {
	l := []part{
		{"Turn", 0, 1000000, api.ErrRange, few(), func(w *api.World) *int { return &w.Turn }},
		{"Next of none", 1, 1000000, api.ErrRange, crowd(0), func(w *api.World) *int { return &w.Next }},
		{"Next of some", 9, 1000000, api.ErrRange, few(), func(w *api.World) *int { return &w.Next }},
		{"Id of one", 1, 7, api.ErrRange, lone(base), func(w *api.World) *int { return &w.Units[0].Id }},
		{"Player", 0, 2, api.ErrRange, lone(fighter), func(w *api.World) *int { return &w.Units[0].Player }},
		{"Kind", 0, 3, api.ErrRange, lone(base), func(w *api.World) *int { return &w.Units[0].Kind }},
		{"Task", 0, 2, api.ErrRange, lone(digger), func(w *api.World) *int { return &w.Units[0].Task }},
		{"At", 0, 11, api.ErrNone, lone(bird), func(w *api.World) *int { return &w.Units[0].At }},
		{"Goal of a march", 0, 11, api.ErrNone, busy(api.March), func(w *api.World) *int { return &w.Units[0].Goal }},
		{"Goal of one that gathers", 0, 11, api.ErrNone, busy(api.Gather), func(w *api.World) *int { return &w.Units[0].Goal }},
		{"Kind of a job", 0, 3, api.ErrRange, busy(api.Rest), func(w *api.World) *int { return &w.Queue[0].Kind }},
		{"Left", 1, 1000, api.ErrRange, busy(api.Rest), func(w *api.World) *int { return &w.Queue[0].Left }},
		{"Player of a job", 1, 1, api.ErrState, busy(api.Rest), func(w *api.World) *int { return &w.Queue[0].Player }},
		{"Unit of a job", 3, 3, api.ErrNone, busy(api.Rest), func(w *api.World) *int { return &w.Queue[0].Unit }},
	}
	for kind, k := range sorts() {
		l = append(l,
			part{"Life of " + k.Name, 1, k.Life, api.ErrRange, lone(kind), func(w *api.World) *int { return &w.Units[0].Life }},
			part{"Load of " + k.Name, 0, k.Carry, api.ErrRange, lone(kind), func(w *api.World) *int { return &w.Units[0].Load }})
	}
	for players := 1; players <= 4; players++ {
		w := api.World{Next: 1, Field: land(), Gold: make([]int, players)}
		for i := range players {
			l = append(l, part{"Gold", 0, 1000000, api.ErrRange, w, func(w *api.World) *int { return &w.Gold[i] }})
		}
	}
	return l
}

// TestCheckNumbers: S2, each number at its least and its most, and beyond.
func TestCheckNumbers(t *testing.T) {
	for _, p := range parts() {
		mid := p.least + (p.most-p.least)/2
		for _, n := range []int{p.least, mid, p.most, p.least - 1, p.most + 1, -p.most - 1, math.MinInt, math.MaxInt, p.most + 1<<32, p.least - 1<<32, p.most + 1<<8, p.least + math.MinInt} {
			want := api.OK
			if n < p.least || n > p.most {
				want = p.told
			}
			w := copied(p.w)
			*p.of(&w) = n
			if err := world.Check(sorts(), w); plain.Told(err) != want {
				t.Errorf("%s %d: got %v, want %v", p.name, n, err, want)
			}
		}
	}
}

// TestCheckPlayers: S2, how many there are.
func TestCheckPlayers(t *testing.T) {
	for n := range 300 {
		want := api.OK
		if n < 1 || n > 4 {
			want = api.ErrRange
		}
		w := api.World{Next: 1, Field: land(), Gold: make([]int, n)}
		if err := world.Check(sorts(), w); plain.Told(err) != want {
			t.Errorf("%d players: got %v, want %v", n, err, want)
		}
	}
}

// TestCheckLists: S2, how many units and jobs there may be.
func TestCheckLists(t *testing.T) {
	for n := range 145 {
		want := api.OK
		if n > 40 {
			want = api.ErrFull
		}
		if err := world.Check(sorts(), crowd(n)); plain.Told(err) != want {
			t.Errorf("%d units: got %v, want %v", n, err, want)
		}
		want = api.OK
		if n > 12 {
			want = api.ErrFull
		}
		w := few()
		w.Queue = jobs(n)
		if err := world.Check(sorts(), w); plain.Told(err) != want {
			t.Errorf("%d jobs: got %v, want %v", n, err, want)
		}
	}
}

// TestCheckIds: S2, ids rise, by one or by more.
func TestCheckIds(t *testing.T) {
	for _, c := range []struct {
		ids  []int
		told api.Errno
	}{
		{[]int{1, 2, 3}, api.OK},
		{[]int{1, 5, 9}, api.OK},
		{[]int{7, 8, 9}, api.OK},
		{[]int{2, 2, 3}, api.ErrOrder},
		{[]int{2, 3, 3}, api.ErrOrder},
		{[]int{2, 1, 3}, api.ErrOrder},
		{[]int{2, 3, 1}, api.ErrOrder},
		{[]int{2, 5, 4}, api.ErrOrder},
		{[]int{9, 9, 9}, api.ErrOrder},
		{[]int{0, 1, 2}, api.ErrRange},
		{[]int{-2, -1, 2}, api.ErrRange},
		{[]int{8, 9, 10}, api.ErrRange},
		{[]int{1, 10, 11}, api.ErrRange},
		// Of one unit what is said of its Id alone comes first; of two units the first one's fault.
		{[]int{3, 0, 4}, api.ErrRange},
		{[]int{10, 1, 2}, api.ErrRange},
		{[]int{3, 2, 10}, api.ErrOrder},
		{[]int{3, 2, 0}, api.ErrOrder},
		{[]int{3, 10, 2}, api.ErrRange},
	} {
		w := crowd(3)
		w.Next = 10
		for i, id := range c.ids {
			w.Units[i].Id = id
		}
		if err := world.Check(sorts(), w); plain.Told(err) != c.told {
			t.Errorf("ids %v: got %v, want %v", c.ids, err, c.told)
		}
	}
}

// TestCheckCells: S2, on each ground one of each kind, and two units in one cell.
func TestCheckCells(t *testing.T) {
	for kind := range sorts() {
		for at, ground := range land().Ground {
			want := api.OK
			if ground == api.Rock || ground == api.Water && kind != bird {
				want = api.ErrState
			}
			w := lone(kind)
			w.Field = land()
			w.Units[0].At = at
			if err := world.Check(sorts(), w); plain.Told(err) != want {
				t.Errorf("kind %d on ground %d: got %v, want %v", kind, ground, err, want)
			}
		}
	}
	for i := range 40 {
		for j := range i {
			w := crowd(40)
			w.Units[i].At = w.Units[j].At
			if err := world.Check(sorts(), w); plain.Told(err) != api.ErrState {
				t.Errorf("units %d and %d in one cell: got %v", j, i, err)
			}
		}
	}
}

// TestCheckGoal: S2, of a unit that rests it is 0; of another one any cell, whatever the ground is, and whoever is there.
func TestCheckGoal(t *testing.T) {
	for _, task := range []int{api.Rest, api.March, api.Gather} {
		for kind := range sorts() {
			for goal := range 12 {
				want := api.OK
				if task == api.Rest && goal != 0 {
					want = api.ErrState
				}
				w := few()
				w.Units = append(w.Units[:4], api.Unit{Id: 6, Kind: kind, At: 7, Life: 2, Task: task, Goal: goal})
				if err := world.Check(sorts(), w); plain.Told(err) != want {
					t.Errorf("kind %d, task %d, goal %d: got %v, want %v", kind, task, goal, err, want)
				}
			}
		}
	}
}

// TestCheckJobs: S2, jobs of units that are not there, of another player, and of one that does not train.
func TestCheckJobs(t *testing.T) {
	for _, c := range []struct {
		name string
		job  api.Job
		told api.Errno
	}{
		{"of the first unit", api.Job{Player: 0, Unit: 1, Kind: fighter, Left: 2}, api.OK},
		{"of another one", api.Job{Player: 1, Unit: 2, Kind: fighter, Left: 2}, api.OK},
		{"of nobody", api.Job{Player: 0, Unit: 3, Kind: fighter, Left: 2}, api.ErrNone},
		{"of 0", api.Job{Player: 0, Unit: 0, Kind: fighter, Left: 2}, api.ErrNone},
		{"of the next one", api.Job{Player: 0, Unit: 9, Kind: fighter, Left: 2}, api.ErrNone},
		{"of -1", api.Job{Player: 0, Unit: -1, Kind: fighter, Left: 2}, api.ErrNone},
		{"of another player's", api.Job{Player: 0, Unit: 2, Kind: fighter, Left: 2}, api.ErrState},
		{"by no player", api.Job{Player: 2, Unit: 2, Kind: fighter, Left: 2}, api.ErrState},
		{"by player -1", api.Job{Player: -1, Unit: 1, Kind: fighter, Left: 2}, api.ErrState},
		{"of a digger", api.Job{Player: 0, Unit: 4, Kind: fighter, Left: 2}, api.ErrState},
		{"of a bird", api.Job{Player: 1, Unit: 5, Kind: fighter, Left: 2}, api.ErrState},
		{"of the last unit", api.Job{Player: 1, Unit: 8, Kind: fighter, Left: 2}, api.ErrState},
		{"of another player's digger", api.Job{Player: 1, Unit: 4, Kind: fighter, Left: 2}, api.ErrState},

		{"of nobody, by no player", api.Job{Player: 7, Unit: 3, Kind: fighter, Left: 2}, api.ErrNone},
		{"of nobody, of no kind", api.Job{Player: 0, Unit: 3, Kind: 4, Left: 2}, api.ErrNone},
		{"of nobody, not left", api.Job{Player: 0, Unit: 3, Kind: fighter, Left: 0}, api.ErrNone},
		{"of another player's, of no kind", api.Job{Player: 0, Unit: 2, Kind: -1, Left: 2}, api.ErrState},
		{"of another player's, too long", api.Job{Player: 0, Unit: 2, Kind: fighter, Left: 1001}, api.ErrState},
		{"of a digger, of no kind", api.Job{Player: 0, Unit: 4, Kind: 4, Left: 2}, api.ErrState},
		{"of a digger, not left", api.Job{Player: 0, Unit: 4, Kind: fighter, Left: 0}, api.ErrState},
	} {
		for place := range 13 {
			w := few()
			w.Queue = jobs(12)
			want := c.told
			if place < 12 {
				w.Queue[place] = c.job
			} else {
				w.Queue, want = append(w.Queue, c.job), api.ErrFull
			}
			if err := world.Check(sorts(), w); plain.Told(err) != want {
				t.Errorf("a job %s at place %d: got %v, want %v", c.name, place, err, want)
			}
		}
	}
}

// TestCheckKinds: S2, a world is right or wrong by the kinds that it is of.
func TestCheckKinds(t *testing.T) {
	for _, c := range []struct {
		name string
		to   func(k []api.Kind) []api.Kind
		told api.Errno
	}{
		{"as they are", func(k []api.Kind) []api.Kind { return k }, api.OK},
		{"none", func(k []api.Kind) []api.Kind { return nil }, api.ErrRange},
		{"three", func(k []api.Kind) []api.Kind { return k[:3] }, api.ErrRange},
		{"less life", func(k []api.Kind) []api.Kind { k[fighter].Life = 19; return k }, api.ErrRange},
		{"less carry", func(k []api.Kind) []api.Kind { k[digger].Carry = 19; return k }, api.ErrRange},
		{"nobody flies", func(k []api.Kind) []api.Kind { k[bird].Flies = false; return k }, api.ErrState},
		{"nobody trains", func(k []api.Kind) []api.Kind { k[base].Trains = false; return k }, api.ErrState},
		{"nine", func(k []api.Kind) []api.Kind { return append(k, make([]api.Kind, 5)...) }, api.ErrFull},
		{"without a name", func(k []api.Kind) []api.Kind { return append(k, api.Kind{Life: 1}) }, api.ErrSyntax},
		{"with one twice", func(k []api.Kind) []api.Kind { return append(k, k[0]) }, api.ErrClash},
		{"too quick", func(k []api.Kind) []api.Kind { k[bird].Speed = 5; return k }, api.ErrRange},
	} {
		if err := world.Check(c.to(sorts()), few()); plain.Told(err) != c.told {
			t.Errorf("kinds %s: got %v, want %v", c.name, err, c.told)
		}
	}
}
